/-
  THE WALK OF the reference's Walk.
-/
import Derived.Test.YtiaejldknbicdaaTabY
import Derived.Deep.DeepCutAuto
namespace Go.Proofs.Ytiaejldknbicdaa
open Go.RowKit Go.ChangeShapes Go.WideShapes Go.ChangeAt

/-- What hands back a walk of the reference. -/
def GotRW (X : Tm.Wk) (ca : Int) (w : World) (r : Ending) (w' : World) : Prop :=
  ∃ AS AR sc rc, r = .returned (.agg #[.int .i64 X.a, .int .i64 X.l, .slice AS X.s.length sc, .slice AR X.r.length rc, .int .i64 ca]) ∧ Sl w' 3 AS X.s.length (Ws X.s) ∧ Sl w' 1 AR X.r.length (N64 X.r) ∧ Later w w'
theorem wd_sz (a b c d e : Value) : (Try.prog.info? 36).map (·.size) = some [a, b, c, d, e].length := by
  show _ = some 5
  kernel_rfl
theorem wd_one (a e p : Int) (A B : Option Addr) (n c n2 c2 : Nat) : ∀ v ∈ [Value.int .i64 a, .int .i64 e, .slice A n c, .slice B n2 c2, .int .i64 p], v.oneCell' = true := by
  intro v hv
  simp only [List.mem_cons, List.not_mem_nil, or_false] at hv
  rcases hv with rfl | rfl | rfl | rfl | rfl <;> rfl
set_option maxRecDepth 100000 in
set_option maxHeartbeats 4000000 in
theorem rwalk_z1 (A : Option Addr) (n c : Nat) (va acc : Int) (us : Bool) (w : World) (h1 : 1 ≤ n ∧ n ≤ 64) (hv : 0 ≤ va ∧ va ≤ 4294967295) (ca : Int) (HC : Hid (∀ w', Calls Try.prog 32 #[.int .i64 acc] w' fun r w'' => r = .returned (.int .i64 ca) ∧ w' = w'')) (hlt : va < (n : Int) * 128) :
    Calls Try.prog 12 #[.agg #[.slice A n c], .int .u32 0, .int .u32 va, .int .i64 acc, .bool us] w (GotRW ⟨true, va, -1, [], []⟩ 0 w) := by
  have w0 : IntKind.i64.wrap va = va := by rw [IntKind.wrap_i64]; omega
  have HS := Lib.hid fun w' => rsize_any A n c w' h1.2
  obtain ⟨N, hN⟩ : ∃ N : Int, N = ((n * 128 : Nat) : Int) := ⟨_, rfl⟩
  rw [← hN] at HS
  have d0 : decide (N ≤ va) = false := decide_eq_false (by omega)
  clear hN hlt h1 hv
  have b5 := ((Blk.new w 24 #[.slice A n c] [.slice A n c] rfl).alloc (.cells #[.int .i64 0, .int .i64 0, .slice none 0 0, .slice none 0 0, .int .i64 0] 36)).alloc (.cells #[.int .i64 0, .int .i64 0, .slice none 0 0, .slice none 0 0, .int .i64 ca] 36)
  have b10 := (Blk.new' (w.alloc (.cells #[.slice A n c] 24)) (w.heap.size + 1) 36 #[.int .i64 0, .int .i64 0, .slice none 0 0, .slice none 0 0, .int .i64 0] [.int .i64 0, .int .i64 0, .slice none 0 0, .slice none 0 0, .int .i64 0] (by simp) rfl).alloc (.cells #[.int .i64 0, .int .i64 0, .slice none 0 0, .slice none 0 0, .int .i64 ca] 36)
  have b11 := Blk.new' ((w.alloc (.cells #[.slice A n c] 24)).alloc (.cells #[.int .i64 0, .int .i64 0, .slice none 0 0, .slice none 0 0, .int .i64 0] 36)) (w.heap.size + 1 + 1) 36 #[.int .i64 0, .int .i64 0, .slice none 0 0, .slice none 0 0, .int .i64 ca] [.int .i64 0, .int .i64 0, .slice none 0 0, .slice none 0 0, .int .i64 ca] (by simp) rfl
  have lx := ((later1 w (.cells #[.slice A n c] 24)).alloc (by simp) (.cells #[.int .i64 0, .int .i64 0, .slice none 0 0, .slice none 0 0, .int .i64 0] 36)).alloc (by simp; omega) (.cells #[.int .i64 0, .int .i64 0, .slice none 0 0, .slice none 0 0, .int .i64 ca] 36)
  go_enter Try.func12, Try.ntmps12
  go_wp2_with (first
    | (go_at_call 32; refine (HC.out _).mono ?_; rintro e w1 ⟨rfl, rfl⟩)
    | (go_at_call 33; refine (HS.out _).mono ?_; rintro e w2 ⟨rfl, l2⟩; replace b10 := b10.keep l2; replace b11 := b11.keep l2; replace lx := Later.trans_ lx l2)
    | ((with_reducible refine wpList_store_abs (o := ⟨none, .store 36 (.tmp 10) (.tmp 31), _, _, _, none⟩) rfl _ _ _ rfl (w.heap.size + 1) 36 [.int .i64 0, .int .i64 0, .slice none 0 0, .slice none 0 0, .int .i64 0] [.int .i64 va, .int .i64 (-1), .slice none 0 0, .slice none 0 0, .int .i64 0] ?_ ?_ b10 ?_ ?_ ?_ ?_); rfl; rfl; exact wd_sz _ _ _ _ _; rfl; exact wd_one _ _ _ _ _ _ _ _ _; intro w5 b8 o5))
  exact bodyPost_ret (v := .agg #[.int .i64 va, .int .i64 (-1), .slice none 0 0, .slice none 0 0, .int .i64 0]) (results_blk Try.results12 _ _ (w.heap.size + 1) 36 [.int .i64 va, .int .i64 (-1), .slice none 0 0, .slice none 0 0, .int .i64 0] _ rfl b8 Try.underlying36 rfl (wd_sz _ _ _ _ _)) rfl
    ⟨_, _, _, _, rfl, ⟨rfl, fun h => absurd h (by simp)⟩, ⟨rfl, fun h => absurd h (by simp)⟩, Below.only lx o5 (by omega)⟩
set_option maxRecDepth 100000 in
set_option maxHeartbeats 4000000 in
theorem rwalk_z2 (A : Option Addr) (n c : Nat) (va acc : Int) (us : Bool) (w : World) (h1 : 1 ≤ n ∧ n ≤ 64) (hv : 0 ≤ va ∧ va ≤ 4294967295) (ca : Int) (HC : Hid (∀ w', Calls Try.prog 32 #[.int .i64 acc] w' fun r w'' => r = .returned (.int .i64 ca) ∧ w' = w'')) (hlt : ¬ va < (n : Int) * 128) :
    Calls Try.prog 12 #[.agg #[.slice A n c], .int .u32 0, .int .u32 va, .int .i64 acc, .bool us] w (GotRW ⟨false, 0, 0, [], []⟩ ca w) := by
  have w0 : IntKind.i64.wrap va = va := by rw [IntKind.wrap_i64]; omega
  have HS := Lib.hid fun w' => rsize_any A n c w' h1.2
  obtain ⟨N, hN⟩ : ∃ N : Int, N = ((n * 128 : Nat) : Int) := ⟨_, rfl⟩
  rw [← hN] at HS
  have d0 : decide (N ≤ va) = true := decide_eq_true (by omega)
  clear hN hlt h1 hv
  have b5 := ((Blk.new w 24 #[.slice A n c] [.slice A n c] rfl).alloc (.cells #[.int .i64 0, .int .i64 0, .slice none 0 0, .slice none 0 0, .int .i64 0] 36)).alloc (.cells #[.int .i64 0, .int .i64 0, .slice none 0 0, .slice none 0 0, .int .i64 ca] 36)
  have b10 := (Blk.new' (w.alloc (.cells #[.slice A n c] 24)) (w.heap.size + 1) 36 #[.int .i64 0, .int .i64 0, .slice none 0 0, .slice none 0 0, .int .i64 0] [.int .i64 0, .int .i64 0, .slice none 0 0, .slice none 0 0, .int .i64 0] (by simp) rfl).alloc (.cells #[.int .i64 0, .int .i64 0, .slice none 0 0, .slice none 0 0, .int .i64 ca] 36)
  have b11 := Blk.new' ((w.alloc (.cells #[.slice A n c] 24)).alloc (.cells #[.int .i64 0, .int .i64 0, .slice none 0 0, .slice none 0 0, .int .i64 0] 36)) (w.heap.size + 1 + 1) 36 #[.int .i64 0, .int .i64 0, .slice none 0 0, .slice none 0 0, .int .i64 ca] [.int .i64 0, .int .i64 0, .slice none 0 0, .slice none 0 0, .int .i64 ca] (by simp) rfl
  have lx := ((later1 w (.cells #[.slice A n c] 24)).alloc (by simp) (.cells #[.int .i64 0, .int .i64 0, .slice none 0 0, .slice none 0 0, .int .i64 0] 36)).alloc (by simp; omega) (.cells #[.int .i64 0, .int .i64 0, .slice none 0 0, .slice none 0 0, .int .i64 ca] 36)
  go_enter Try.func12, Try.ntmps12
  go_wp2_with (first
    | (go_at_call 32; refine (HC.out _).mono ?_; rintro e w1 ⟨rfl, rfl⟩)
    | (go_at_call 33; refine (HS.out _).mono ?_; rintro e w2 ⟨rfl, l2⟩; replace b10 := b10.keep l2; replace b11 := b11.keep l2; replace lx := Later.trans_ lx l2)
    | ((with_reducible refine wpList_load_blk (o := ⟨some 28, .load 36 (.tmp 11), _, _, _, none⟩) rfl _ _ rfl (w.heap.size + 1 + 1) 36 [.int .i64 0, .int .i64 0, .slice none 0 0, .slice none 0 0, .int .i64 ca] _ ?_ b11 Try.underlying36 rfl (wd_sz _ _ _ _ _) ?_); rfl)
    | ((with_reducible refine wpList_store_abs (o := ⟨none, .store 36 (.tmp 10) (.tmp 28), _, _, _, none⟩) rfl _ _ _ rfl (w.heap.size + 1) 36 [.int .i64 0, .int .i64 0, .slice none 0 0, .slice none 0 0, .int .i64 0] [.int .i64 0, .int .i64 0, .slice none 0 0, .slice none 0 0, .int .i64 ca] ?_ ?_ b10 ?_ ?_ ?_ ?_); rfl; rfl; exact wd_sz _ _ _ _ _; rfl; exact wd_one _ _ _ _ _ _ _ _ _; intro w5 b8 o5))
  exact bodyPost_ret (v := .agg #[.int .i64 0, .int .i64 0, .slice none 0 0, .slice none 0 0, .int .i64 ca]) (results_blk Try.results12 _ _ (w.heap.size + 1) 36 [.int .i64 0, .int .i64 0, .slice none 0 0, .slice none 0 0, .int .i64 ca] _ rfl b8 Try.underlying36 rfl (wd_sz _ _ _ _ _)) rfl
    ⟨_, _, _, _, rfl, ⟨rfl, fun h => absurd h (by simp)⟩, ⟨rfl, fun h => absurd h (by simp)⟩, Below.only lx o5 (by omega)⟩
set_option maxRecDepth 100000 in
set_option maxHeartbeats 4000000 in
theorem rwalk_c (A : Option Addr) (n c : Nat) (root va acc : Int) (us : Bool) (w : World) (_ : 1 ≤ n ∧ n ≤ 64) (hv : 0 ≤ va ∧ va ≤ 4294967295) (ca : Int) (HC : Hid (∀ w', Calls Try.prog 32 #[.int .i64 acc] w' fun r w'' => r = .returned (.int .i64 ca) ∧ w' = w'')) (hr : 0 ≤ root ∧ root ≤ 4294967295) (h0 : root ≠ 0) (hlt : ¬ va < 131072) :
    Calls Try.prog 12 #[.agg #[.slice A n c], .int .u32 root, .int .u32 va, .int .i64 acc, .bool us] w (GotRW ⟨false, 0, 0, [], []⟩ ca w) := by
  have w0 : IntKind.i64.wrap va = va := by rw [IntKind.wrap_i64]; omega
  have d1 : (root == 0) = false := by simpa using h0
  have w3 : IntKind.i64.wrap root = root := by rw [IntKind.wrap_i64]; omega
  have d0 : decide (131072 ≤ va) = true := decide_eq_true (by omega)
  clear hlt hv h0 hr
  have b5 := ((Blk.new w 24 #[.slice A n c] [.slice A n c] rfl).alloc (.cells #[.int .i64 0, .int .i64 0, .slice none 0 0, .slice none 0 0, .int .i64 0] 36)).alloc (.cells #[.int .i64 0, .int .i64 0, .slice none 0 0, .slice none 0 0, .int .i64 ca] 36)
  have b10 := (Blk.new' (w.alloc (.cells #[.slice A n c] 24)) (w.heap.size + 1) 36 #[.int .i64 0, .int .i64 0, .slice none 0 0, .slice none 0 0, .int .i64 0] [.int .i64 0, .int .i64 0, .slice none 0 0, .slice none 0 0, .int .i64 0] (by simp) rfl).alloc (.cells #[.int .i64 0, .int .i64 0, .slice none 0 0, .slice none 0 0, .int .i64 ca] 36)
  have b11 := Blk.new' ((w.alloc (.cells #[.slice A n c] 24)).alloc (.cells #[.int .i64 0, .int .i64 0, .slice none 0 0, .slice none 0 0, .int .i64 0] 36)) (w.heap.size + 1 + 1) 36 #[.int .i64 0, .int .i64 0, .slice none 0 0, .slice none 0 0, .int .i64 ca] [.int .i64 0, .int .i64 0, .slice none 0 0, .slice none 0 0, .int .i64 ca] (by simp) rfl
  have lx := ((later1 w (.cells #[.slice A n c] 24)).alloc (by simp) (.cells #[.int .i64 0, .int .i64 0, .slice none 0 0, .slice none 0 0, .int .i64 0] 36)).alloc (by simp; omega) (.cells #[.int .i64 0, .int .i64 0, .slice none 0 0, .slice none 0 0, .int .i64 ca] 36)
  go_enter Try.func12, Try.ntmps12
  go_wp2_with (first
    | (go_at_call 32; refine (HC.out _).mono ?_; rintro e w1 ⟨rfl, rfl⟩)
    | ((with_reducible refine wpList_load_blk (o := ⟨some 41, .load 36 (.tmp 11), _, _, _, none⟩) rfl _ _ rfl (w.heap.size + 1 + 1) 36 [.int .i64 0, .int .i64 0, .slice none 0 0, .slice none 0 0, .int .i64 ca] _ ?_ b11 Try.underlying36 rfl (wd_sz _ _ _ _ _) ?_); rfl)
    | ((with_reducible refine wpList_store_abs (o := ⟨none, .store 36 (.tmp 10) (.tmp 41), _, _, _, none⟩) rfl _ _ _ rfl (w.heap.size + 1) 36 [.int .i64 0, .int .i64 0, .slice none 0 0, .slice none 0 0, .int .i64 0] [.int .i64 0, .int .i64 0, .slice none 0 0, .slice none 0 0, .int .i64 ca] ?_ ?_ b10 ?_ ?_ ?_ ?_); rfl; rfl; exact wd_sz _ _ _ _ _; rfl; exact wd_one _ _ _ _ _ _ _ _ _; intro w5 b8 o5))
  exact bodyPost_ret (v := .agg #[.int .i64 0, .int .i64 0, .slice none 0 0, .slice none 0 0, .int .i64 ca]) (results_blk Try.results12 _ _ (w.heap.size + 1) 36 [.int .i64 0, .int .i64 0, .slice none 0 0, .slice none 0 0, .int .i64 ca] _ rfl b8 Try.underlying36 rfl (wd_sz _ _ _ _ _)) rfl
    ⟨_, _, _, _, rfl, ⟨rfl, fun h => absurd h (by simp)⟩, ⟨rfl, fun h => absurd h (by simp)⟩, Below.only lx o5 (by omega)⟩
set_option maxRecDepth 100000 in
set_option maxHeartbeats 4000000 in
theorem rwalk_d (A : Option Addr) (n c : Nat) (root va acc : Int) (us : Bool) (w : World) (h1 : 1 ≤ n ∧ n ≤ 64) (hv : 0 ≤ va ∧ va ≤ 4294967295) (ca : Int) (HC : Hid (∀ w', Calls Try.prog 32 #[.int .i64 acc] w' fun r w'' => r = .returned (.int .i64 ca) ∧ w' = w'')) (hr : 0 ≤ root ∧ root ≤ 4294967295) (h0 : root ≠ 0) (hlt : va < 131072) (hp : Tm.pageB n root = false) :
    Calls Try.prog 12 #[.agg #[.slice A n c], .int .u32 root, .int .u32 va, .int .i64 acc, .bool us] w (GotRW ⟨false, 0, 0, [], []⟩ ca w) := by
  have w0 : IntKind.i64.wrap va = va := by rw [IntKind.wrap_i64]; omega
  have d1 : (root == 0) = false := by simpa using h0
  have w3 : IntKind.i64.wrap root = root := by rw [IntKind.wrap_i64]; omega
  have d0 : decide (131072 ≤ va) = false := decide_eq_false (by omega)
  have HP := Lib.hid fun w' => rpage_any A n c root w' h1.2 (by omega)
  rw [hp] at HP
  clear hlt h1 hv h0 hr hp
  have b5 := ((Blk.new w 24 #[.slice A n c] [.slice A n c] rfl).alloc (.cells #[.int .i64 0, .int .i64 0, .slice none 0 0, .slice none 0 0, .int .i64 0] 36)).alloc (.cells #[.int .i64 0, .int .i64 0, .slice none 0 0, .slice none 0 0, .int .i64 ca] 36)
  have b10 := (Blk.new' (w.alloc (.cells #[.slice A n c] 24)) (w.heap.size + 1) 36 #[.int .i64 0, .int .i64 0, .slice none 0 0, .slice none 0 0, .int .i64 0] [.int .i64 0, .int .i64 0, .slice none 0 0, .slice none 0 0, .int .i64 0] (by simp) rfl).alloc (.cells #[.int .i64 0, .int .i64 0, .slice none 0 0, .slice none 0 0, .int .i64 ca] 36)
  have b11 := Blk.new' ((w.alloc (.cells #[.slice A n c] 24)).alloc (.cells #[.int .i64 0, .int .i64 0, .slice none 0 0, .slice none 0 0, .int .i64 0] 36)) (w.heap.size + 1 + 1) 36 #[.int .i64 0, .int .i64 0, .slice none 0 0, .slice none 0 0, .int .i64 ca] [.int .i64 0, .int .i64 0, .slice none 0 0, .slice none 0 0, .int .i64 ca] (by simp) rfl
  have lx := ((later1 w (.cells #[.slice A n c] 24)).alloc (by simp) (.cells #[.int .i64 0, .int .i64 0, .slice none 0 0, .slice none 0 0, .int .i64 0] 36)).alloc (by simp; omega) (.cells #[.int .i64 0, .int .i64 0, .slice none 0 0, .slice none 0 0, .int .i64 ca] 36)
  go_enter Try.func12, Try.ntmps12
  go_wp2_with (first
    | (go_at_call 32; refine (HC.out _).mono ?_; rintro e w1 ⟨rfl, rfl⟩)
    | (go_at_call 34; refine (HP.out _).mono ?_; rintro e w2 ⟨rfl, l2⟩; replace b5 := b5.keep l2; replace b10 := b10.keep l2; replace b11 := b11.keep l2; replace lx := Later.trans_ lx l2; have c5 := b5.cell (j := 0) (v := .slice A n c) rfl)
    | ((with_reducible refine wpList_load_blk (o := ⟨some 41, .load 36 (.tmp 11), _, _, _, none⟩) rfl _ _ rfl (w.heap.size + 1 + 1) 36 [.int .i64 0, .int .i64 0, .slice none 0 0, .slice none 0 0, .int .i64 ca] _ ?_ b11 Try.underlying36 rfl (wd_sz _ _ _ _ _) ?_); rfl)
    | ((with_reducible refine wpList_store_abs (o := ⟨none, .store 36 (.tmp 10) (.tmp 41), _, _, _, none⟩) rfl _ _ _ rfl (w.heap.size + 1) 36 [.int .i64 0, .int .i64 0, .slice none 0 0, .slice none 0 0, .int .i64 0] [.int .i64 0, .int .i64 0, .slice none 0 0, .slice none 0 0, .int .i64 ca] ?_ ?_ b10 ?_ ?_ ?_ ?_); rfl; rfl; exact wd_sz _ _ _ _ _; rfl; exact wd_one _ _ _ _ _ _ _ _ _; intro w5 b8 o5))
  exact bodyPost_ret (v := .agg #[.int .i64 0, .int .i64 0, .slice none 0 0, .slice none 0 0, .int .i64 ca]) (results_blk Try.results12 _ _ (w.heap.size + 1) 36 [.int .i64 0, .int .i64 0, .slice none 0 0, .slice none 0 0, .int .i64 ca] _ rfl b8 Try.underlying36 rfl (wd_sz _ _ _ _ _)) rfl
    ⟨_, _, _, _, rfl, ⟨rfl, fun h => absurd h (by simp)⟩, ⟨rfl, fun h => absurd h (by simp)⟩, Below.only lx o5 (by omega)⟩
/-- What hands back a leaf, its parts named. -/
def GotLg (fa fe pg : Int) (fr : List Int) (nr : Nat) (ok : Bool) (w : World) (r : Ending) (w' : World) : Prop :=
  ∃ AR cr, r = .returned (.agg #[.int .i64 fa, .int .i64 fe, .int .i64 pg, .slice AR nr cr, .bool ok]) ∧ Sl w' 1 AR nr (N64 fr) ∧ (∀ ad, AR = some ad → w.heap.size ≤ ad.block) ∧ Later w w'
set_option maxRecDepth 100000 in
set_option maxHeartbeats 4000000 in
theorem rwalk_e1 (A : Option Addr) (n c : Nat) (root va acc : Int) (us : Bool) (w : World) (h1 : 1 ≤ n ∧ n ≤ 64) (hv : 0 ≤ va ∧ va ≤ 4294967295) (ca : Int) (HC : Hid (∀ w', Calls Try.prog 32 #[.int .i64 acc] w' fun r w'' => r = .returned (.int .i64 ca) ∧ w' = w'')) (hr : 0 ≤ root ∧ root ≤ 4294967295) (h0 : root ≠ 0) (hlt : va < 131072) (hp : Tm.pageB n root = true) (fa fe : Int) (fr : List Int) (nr : Nat) (hnr : fr.length = nr) (KF : Hid (∀ w', Later w w' → Calls Try.prog 35 #[.agg #[.slice A n c], .int .i64 root, .int .i64 va] w' fun r w'' => ∃ pg, GotLg fa fe pg fr nr false w' r w'')) :
    Calls Try.prog 12 #[.agg #[.slice A n c], .int .u32 root, .int .u32 va, .int .i64 acc, .bool us] w (GotRW ⟨false, 0, 0, [], fr⟩ ca w) := by
  have w0 : IntKind.i64.wrap va = va := by rw [IntKind.wrap_i64]; omega
  have d1 : (root == 0) = false := by simpa using h0
  have w3 : IntKind.i64.wrap root = root := by rw [IntKind.wrap_i64]; omega
  have d0 : decide (131072 ≤ va) = false := decide_eq_false (by omega)
  have HP := Lib.hid fun w' => rpage_any A n c root w' h1.2 (by omega)
  rw [hp] at HP
  clear hlt h1 hv h0 hr hp
  have b5 := ((Blk.new w 24 #[.slice A n c] [.slice A n c] rfl).alloc (.cells #[.int .i64 0, .int .i64 0, .slice none 0 0, .slice none 0 0, .int .i64 0] 36)).alloc (.cells #[.int .i64 0, .int .i64 0, .slice none 0 0, .slice none 0 0, .int .i64 ca] 36)
  have b10 := (Blk.new' (w.alloc (.cells #[.slice A n c] 24)) (w.heap.size + 1) 36 #[.int .i64 0, .int .i64 0, .slice none 0 0, .slice none 0 0, .int .i64 0] [.int .i64 0, .int .i64 0, .slice none 0 0, .slice none 0 0, .int .i64 0] (by simp) rfl).alloc (.cells #[.int .i64 0, .int .i64 0, .slice none 0 0, .slice none 0 0, .int .i64 ca] 36)
  have b11 := Blk.new' ((w.alloc (.cells #[.slice A n c] 24)).alloc (.cells #[.int .i64 0, .int .i64 0, .slice none 0 0, .slice none 0 0, .int .i64 0] 36)) (w.heap.size + 1 + 1) 36 #[.int .i64 0, .int .i64 0, .slice none 0 0, .slice none 0 0, .int .i64 ca] [.int .i64 0, .int .i64 0, .slice none 0 0, .slice none 0 0, .int .i64 ca] (by simp) rfl
  have lx := ((later1 w (.cells #[.slice A n c] 24)).alloc (by simp) (.cells #[.int .i64 0, .int .i64 0, .slice none 0 0, .slice none 0 0, .int .i64 0] 36)).alloc (by simp; omega) (.cells #[.int .i64 0, .int .i64 0, .slice none 0 0, .slice none 0 0, .int .i64 ca] 36)
  go_enter Try.func12, Try.ntmps12
  go_upto_region 11 with (first
    | (go_at_call 32; refine (HC.out _).mono ?_; rintro e w1 ⟨rfl, rfl⟩)
    | (go_at_call 34; refine (HP.out _).mono ?_; rintro e w2 ⟨rfl, l2⟩; replace b5 := b5.keep l2; replace b10 := b10.keep l2; replace b11 := b11.keep l2; replace lx := Later.trans_ lx l2; have c5 := b5.cell (j := 0) (v := .slice A n c) rfl)
    | (go_at_call 35; refine (KF.out _ lx).mono ?_; have h11 := b11.lt; rintro e w3 ⟨pg, AR, cr, rfl, hAR, hfr, l3⟩; clear c5; replace b5 := b5.keep l3; replace b10 := b10.keep l3; replace b11 := b11.keep l3; replace lx := Later.trans_ lx l3; have c5 := b5.cell (j := 0) (v := .slice A n c) rfl; have c14 := (b11.alloc (.cells #[.int .i64 fa, .int .i64 fe, .int .i64 pg, .slice AR nr cr, .bool false] 74)).cell (j := 3) (v := .slice none 0 0) rfl; have f14 := (b11.alloc (.cells #[.int .i64 fa, .int .i64 fe, .int .i64 pg, .slice AR nr cr, .bool false] 74)).frz 3))
  have h12 := b11.lt
  have bl : Blk ((w3.alloc (.cells #[.int .i64 fa, .int .i64 fe, .int .i64 pg, .slice AR nr cr, .bool false] 74)).setCell ⟨w.heap.size + 1 + 1, 3, none⟩ (.slice AR nr cr)) w3.heap.size 74 [.int .i64 fa, .int .i64 fe, .int .i64 pg, .slice AR nr cr, .bool false] := (Blk.new w3 74 #[.int .i64 fa, .int .i64 fe, .int .i64 pg, .slice AR nr cr, .bool false] [.int .i64 fa, .int .i64 fe, .int .i64 pg, .slice AR nr cr, .bool false] rfl).set_other ⟨w.heap.size + 1 + 1, 3, none⟩ (.slice AR nr cr) (by show w3.heap.size ≠ w.heap.size + 1 + 1; omega)
  replace b5 : Blk ((w3.alloc (.cells #[.int .i64 fa, .int .i64 fe, .int .i64 pg, .slice AR nr cr, .bool false] 74)).setCell ⟨w.heap.size + 1 + 1, 3, none⟩ (.slice AR nr cr)) w.heap.size 24 [.slice A n c] := (b5.alloc (.cells #[.int .i64 fa, .int .i64 fe, .int .i64 pg, .slice AR nr cr, .bool false] 74)).set_other ⟨w.heap.size + 1 + 1, 3, none⟩ (.slice AR nr cr) (by show w.heap.size ≠ w.heap.size + 1 + 1; omega)
  replace b10 : Blk ((w3.alloc (.cells #[.int .i64 fa, .int .i64 fe, .int .i64 pg, .slice AR nr cr, .bool false] 74)).setCell ⟨w.heap.size + 1 + 1, 3, none⟩ (.slice AR nr cr)) (w.heap.size + 1) 36 [.int .i64 0, .int .i64 0, .slice none 0 0, .slice none 0 0, .int .i64 0] := (b10.alloc (.cells #[.int .i64 fa, .int .i64 fe, .int .i64 pg, .slice AR nr cr, .bool false] 74)).set_other ⟨w.heap.size + 1 + 1, 3, none⟩ (.slice AR nr cr) (by show w.heap.size + 1 ≠ w.heap.size + 1 + 1; omega)
  replace b11 : Blk ((w3.alloc (.cells #[.int .i64 fa, .int .i64 fe, .int .i64 pg, .slice AR nr cr, .bool false] 74)).setCell ⟨w.heap.size + 1 + 1, 3, none⟩ (.slice AR nr cr)) (w.heap.size + 1 + 1) 36 [.int .i64 0, .int .i64 0, .slice none 0 0, .slice AR nr cr, .int .i64 ca] := (b11.alloc (.cells #[.int .i64 fa, .int .i64 fe, .int .i64 pg, .slice AR nr cr, .bool false] 74)).set 3 (.slice AR nr cr)
  replace lx : Later w ((w3.alloc (.cells #[.int .i64 fa, .int .i64 fe, .int .i64 pg, .slice AR nr cr, .bool false] 74)).setCell ⟨w.heap.size + 1 + 1, 3, none⟩ (.slice AR nr cr)) := (lx.alloc lx.size (.cells #[.int .i64 fa, .int .i64 fe, .int .i64 pg, .slice AR nr cr, .bool false] 74)).setCell (p := ⟨w.heap.size + 1 + 1, 3, none⟩) (by show w.heap.size ≤ w.heap.size + 1 + 1; omega) (.slice AR nr cr)
  replace hAR : Sl ((w3.alloc (.cells #[.int .i64 fa, .int .i64 fe, .int .i64 pg, .slice AR nr cr, .bool false] 74)).setCell ⟨w.heap.size + 1 + 1, 3, none⟩ (.slice AR nr cr)) 1 AR nr (N64 fr) := (hAR.keep (later1 w3 (.cells #[.int .i64 fa, .int .i64 fe, .int .i64 pg, .slice AR nr cr, .bool false] 74))).only_ne (Only.set _ (w.heap.size + 1 + 1) 3 (.slice AR nr cr)) (fun ad e => by have := hfr ad e; omega)
  have hna : ∀ ad, AR = some ad → w.heap.size + 1 + 1 < ad.block := fun ad e => by have := hfr ad e; omega
  clear c14 f14 c5 h11 hfr l3 l2
  have c5 := b5.cell (j := 0) (v := .slice A n c) rfl
  obtain ⟨u, hu⟩ : ∃ u, u = ((w3.alloc (.cells #[.int .i64 fa, .int .i64 fe, .int .i64 pg, .slice AR nr cr, .bool false] 74)).setCell ⟨w.heap.size + 1 + 1, 3, none⟩ (.slice AR nr cr)) := ⟨_, rfl⟩
  rw [← hu] at bl b5 b10 b11 lx hAR c5 ⊢
  clear hu
  obtain ⟨g, hg⟩ : ∃ g, g = w3.heap.size := ⟨_, rfl⟩
  rw [← hg] at bl h12 ⊢
  clear hg
  have e4 := bl.cell (j := 4) (v := .bool false) rfl
  go_wp2_with (first
    | ((with_reducible refine wpList_load_blk (o := ⟨some 61, .load 36 (.tmp 11), _, _, _, none⟩) rfl _ _ rfl (w.heap.size + 1 + 1) 36 [.int .i64 0, .int .i64 0, .slice none 0 0, .slice AR nr cr, .int .i64 ca] _ ?_ b11 Try.underlying36 rfl (wd_sz _ _ _ _ _) ?_); rfl)
    | ((with_reducible refine wpList_store_abs (o := ⟨none, .store 36 (.tmp 10) (.tmp 61), _, _, _, none⟩) rfl _ _ _ rfl (w.heap.size + 1) 36 [.int .i64 0, .int .i64 0, .slice none 0 0, .slice none 0 0, .int .i64 0] [.int .i64 0, .int .i64 0, .slice none 0 0, .slice AR nr cr, .int .i64 ca] ?_ ?_ b10 ?_ ?_ ?_ ?_); rfl; rfl; exact wd_sz _ _ _ _ _; rfl; exact wd_one _ _ _ _ _ _ _ _ _; intro w5 b8 o5))
  subst hnr
  exact bodyPost_ret (v := .agg #[.int .i64 0, .int .i64 0, .slice none 0 0, .slice AR fr.length cr, .int .i64 ca]) (results_blk Try.results12 _ _ (w.heap.size + 1) 36 [.int .i64 0, .int .i64 0, .slice none 0 0, .slice AR fr.length cr, .int .i64 ca] _ rfl b8 Try.underlying36 rfl (wd_sz _ _ _ _ _)) rfl
    ⟨_, _, _, _, rfl, ⟨rfl, fun h => absurd h (by simp)⟩, hAR.only_ne o5 (fun ad e => by have := hna ad e; omega), Below.only lx o5 (by omega)⟩
set_option maxRecDepth 100000 in
set_option maxHeartbeats 4000000 in
theorem rwalk_e2 (A : Option Addr) (n c : Nat) (root va acc : Int) (us : Bool) (w : World) (h1 : 1 ≤ n ∧ n ≤ 64) (hv : 0 ≤ va ∧ va ≤ 4294967295) (ca : Int) (HC : Hid (∀ w', Calls Try.prog 32 #[.int .i64 acc] w' fun r w'' => r = .returned (.int .i64 ca) ∧ w' = w'')) (hr : 0 ≤ root ∧ root ≤ 4294967295) (h0 : root ≠ 0) (hlt : va < 131072) (hp : Tm.pageB n root = true) (fa fe : Int) (fr : List Int) (nr : Nat) (hnr : fr.length = nr) (pg : Int) (hpg : 0 ≤ pg ∧ pg < 1099511627776) (hp2 : Tm.pageB n pg = false) (KF : Hid (∀ w', Later w w' → Calls Try.prog 35 #[.agg #[.slice A n c], .int .i64 root, .int .i64 va] w' fun r w'' => GotLg fa fe pg fr nr true w' r w'')) :
    Calls Try.prog 12 #[.agg #[.slice A n c], .int .u32 root, .int .u32 va, .int .i64 acc, .bool us] w (GotRW ⟨false, 0, 0, [], fr⟩ ca w) := by
  have w0 : IntKind.i64.wrap va = va := by rw [IntKind.wrap_i64]; omega
  have d1 : (root == 0) = false := by simpa using h0
  have w3 : IntKind.i64.wrap root = root := by rw [IntKind.wrap_i64]; omega
  have d0 : decide (131072 ≤ va) = false := decide_eq_false (by omega)
  have HP := Lib.hid fun w' => rpage_any A n c root w' h1.2 (by omega)
  rw [hp] at HP
  have HP2 := Lib.hid fun w' => rpage_any A n c pg w' h1.2 hpg
  rw [hp2] at HP2
  clear hpg hp2 hlt h1 hv h0 hr hp
  have b5 := ((Blk.new w 24 #[.slice A n c] [.slice A n c] rfl).alloc (.cells #[.int .i64 0, .int .i64 0, .slice none 0 0, .slice none 0 0, .int .i64 0] 36)).alloc (.cells #[.int .i64 0, .int .i64 0, .slice none 0 0, .slice none 0 0, .int .i64 ca] 36)
  have b10 := (Blk.new' (w.alloc (.cells #[.slice A n c] 24)) (w.heap.size + 1) 36 #[.int .i64 0, .int .i64 0, .slice none 0 0, .slice none 0 0, .int .i64 0] [.int .i64 0, .int .i64 0, .slice none 0 0, .slice none 0 0, .int .i64 0] (by simp) rfl).alloc (.cells #[.int .i64 0, .int .i64 0, .slice none 0 0, .slice none 0 0, .int .i64 ca] 36)
  have b11 := Blk.new' ((w.alloc (.cells #[.slice A n c] 24)).alloc (.cells #[.int .i64 0, .int .i64 0, .slice none 0 0, .slice none 0 0, .int .i64 0] 36)) (w.heap.size + 1 + 1) 36 #[.int .i64 0, .int .i64 0, .slice none 0 0, .slice none 0 0, .int .i64 ca] [.int .i64 0, .int .i64 0, .slice none 0 0, .slice none 0 0, .int .i64 ca] (by simp) rfl
  have lx := ((later1 w (.cells #[.slice A n c] 24)).alloc (by simp) (.cells #[.int .i64 0, .int .i64 0, .slice none 0 0, .slice none 0 0, .int .i64 0] 36)).alloc (by simp; omega) (.cells #[.int .i64 0, .int .i64 0, .slice none 0 0, .slice none 0 0, .int .i64 ca] 36)
  go_enter Try.func12, Try.ntmps12
  go_upto_region 11 with (first
    | (go_at_call 32; refine (HC.out _).mono ?_; rintro e w1 ⟨rfl, rfl⟩)
    | (go_at_call 34; refine (HP.out _).mono ?_; rintro e w2 ⟨rfl, l2⟩; replace b5 := b5.keep l2; replace b10 := b10.keep l2; replace b11 := b11.keep l2; replace lx := Later.trans_ lx l2; have c5 := b5.cell (j := 0) (v := .slice A n c) rfl)
    | (go_at_call 35; refine (KF.out _ lx).mono ?_; have h11 := b11.lt; rintro e w3 ⟨AR, cr, rfl, hAR, hfr, l3⟩; clear c5; replace b5 := b5.keep l3; replace b10 := b10.keep l3; replace b11 := b11.keep l3; replace lx := Later.trans_ lx l3; have c5 := b5.cell (j := 0) (v := .slice A n c) rfl; have c14 := (b11.alloc (.cells #[.int .i64 fa, .int .i64 fe, .int .i64 pg, .slice AR nr cr, .bool true] 74)).cell (j := 3) (v := .slice none 0 0) rfl; have f14 := (b11.alloc (.cells #[.int .i64 fa, .int .i64 fe, .int .i64 pg, .slice AR nr cr, .bool true] 74)).frz 3))
  have h12 := b11.lt
  have bl : Blk ((w3.alloc (.cells #[.int .i64 fa, .int .i64 fe, .int .i64 pg, .slice AR nr cr, .bool true] 74)).setCell ⟨w.heap.size + 1 + 1, 3, none⟩ (.slice AR nr cr)) w3.heap.size 74 [.int .i64 fa, .int .i64 fe, .int .i64 pg, .slice AR nr cr, .bool true] := (Blk.new w3 74 #[.int .i64 fa, .int .i64 fe, .int .i64 pg, .slice AR nr cr, .bool true] [.int .i64 fa, .int .i64 fe, .int .i64 pg, .slice AR nr cr, .bool true] rfl).set_other ⟨w.heap.size + 1 + 1, 3, none⟩ (.slice AR nr cr) (by show w3.heap.size ≠ w.heap.size + 1 + 1; omega)
  replace b5 : Blk ((w3.alloc (.cells #[.int .i64 fa, .int .i64 fe, .int .i64 pg, .slice AR nr cr, .bool true] 74)).setCell ⟨w.heap.size + 1 + 1, 3, none⟩ (.slice AR nr cr)) w.heap.size 24 [.slice A n c] := (b5.alloc (.cells #[.int .i64 fa, .int .i64 fe, .int .i64 pg, .slice AR nr cr, .bool true] 74)).set_other ⟨w.heap.size + 1 + 1, 3, none⟩ (.slice AR nr cr) (by show w.heap.size ≠ w.heap.size + 1 + 1; omega)
  replace b10 : Blk ((w3.alloc (.cells #[.int .i64 fa, .int .i64 fe, .int .i64 pg, .slice AR nr cr, .bool true] 74)).setCell ⟨w.heap.size + 1 + 1, 3, none⟩ (.slice AR nr cr)) (w.heap.size + 1) 36 [.int .i64 0, .int .i64 0, .slice none 0 0, .slice none 0 0, .int .i64 0] := (b10.alloc (.cells #[.int .i64 fa, .int .i64 fe, .int .i64 pg, .slice AR nr cr, .bool true] 74)).set_other ⟨w.heap.size + 1 + 1, 3, none⟩ (.slice AR nr cr) (by show w.heap.size + 1 ≠ w.heap.size + 1 + 1; omega)
  replace b11 : Blk ((w3.alloc (.cells #[.int .i64 fa, .int .i64 fe, .int .i64 pg, .slice AR nr cr, .bool true] 74)).setCell ⟨w.heap.size + 1 + 1, 3, none⟩ (.slice AR nr cr)) (w.heap.size + 1 + 1) 36 [.int .i64 0, .int .i64 0, .slice none 0 0, .slice AR nr cr, .int .i64 ca] := (b11.alloc (.cells #[.int .i64 fa, .int .i64 fe, .int .i64 pg, .slice AR nr cr, .bool true] 74)).set 3 (.slice AR nr cr)
  replace lx : Later w ((w3.alloc (.cells #[.int .i64 fa, .int .i64 fe, .int .i64 pg, .slice AR nr cr, .bool true] 74)).setCell ⟨w.heap.size + 1 + 1, 3, none⟩ (.slice AR nr cr)) := (lx.alloc lx.size (.cells #[.int .i64 fa, .int .i64 fe, .int .i64 pg, .slice AR nr cr, .bool true] 74)).setCell (p := ⟨w.heap.size + 1 + 1, 3, none⟩) (by show w.heap.size ≤ w.heap.size + 1 + 1; omega) (.slice AR nr cr)
  replace hAR : Sl ((w3.alloc (.cells #[.int .i64 fa, .int .i64 fe, .int .i64 pg, .slice AR nr cr, .bool true] 74)).setCell ⟨w.heap.size + 1 + 1, 3, none⟩ (.slice AR nr cr)) 1 AR nr (N64 fr) := (hAR.keep (later1 w3 (.cells #[.int .i64 fa, .int .i64 fe, .int .i64 pg, .slice AR nr cr, .bool true] 74))).only_ne (Only.set _ (w.heap.size + 1 + 1) 3 (.slice AR nr cr)) (fun ad e => by have := hfr ad e; omega)
  have hna : ∀ ad, AR = some ad → w.heap.size + 1 + 1 < ad.block := fun ad e => by have := hfr ad e; omega
  clear c14 f14 c5 h11 hfr l3 l2
  have c5 := b5.cell (j := 0) (v := .slice A n c) rfl
  obtain ⟨u, hu⟩ : ∃ u, u = ((w3.alloc (.cells #[.int .i64 fa, .int .i64 fe, .int .i64 pg, .slice AR nr cr, .bool true] 74)).setCell ⟨w.heap.size + 1 + 1, 3, none⟩ (.slice AR nr cr)) := ⟨_, rfl⟩
  rw [← hu] at bl b5 b10 b11 lx hAR c5 ⊢
  clear hu
  obtain ⟨g, hg⟩ : ∃ g, g = w3.heap.size := ⟨_, rfl⟩
  rw [← hg] at bl h12 ⊢
  clear hg
  have e1 := bl.cell (j := 1) (v := .int .i64 fe) rfl
  have e2 := bl.cell (j := 2) (v := .int .i64 pg) rfl
  have e4 := bl.cell (j := 4) (v := .bool true) rfl
  go_wp2_with (first
    | (go_at_call 34; refine (HP2.out _).mono ?_; rintro e w4 ⟨rfl, l4⟩; clear e1 e2 e4; replace bl := bl.keep l4; replace b10 := b10.keep l4; replace b11 := b11.keep l4; replace lx := Later.trans_ lx l4; replace hAR := hAR.keep l4; have e0 := bl.cell (j := 0) (v := .int .i64 fa) rfl; have e1 := bl.cell (j := 1) (v := .int .i64 fe) rfl; have e2 := bl.cell (j := 2) (v := .int .i64 pg) rfl; have e3 := bl.cell (j := 3) (v := .slice AR nr cr) rfl)
    | ((with_reducible refine wpList_load_blk (o := ⟨some 61, .load 36 (.tmp 11), _, _, _, none⟩) rfl _ _ rfl (w.heap.size + 1 + 1) 36 [.int .i64 0, .int .i64 0, .slice none 0 0, .slice AR nr cr, .int .i64 ca] _ ?_ b11 Try.underlying36 rfl (wd_sz _ _ _ _ _) ?_); rfl)
    | ((with_reducible refine wpList_store_abs (o := ⟨none, .store 36 (.tmp 10) (.tmp 61), _, _, _, none⟩) rfl _ _ _ rfl (w.heap.size + 1) 36 [.int .i64 0, .int .i64 0, .slice none 0 0, .slice none 0 0, .int .i64 0] [.int .i64 0, .int .i64 0, .slice none 0 0, .slice AR nr cr, .int .i64 ca] ?_ ?_ b10 ?_ ?_ ?_ ?_); rfl; rfl; exact wd_sz _ _ _ _ _; rfl; exact wd_one _ _ _ _ _ _ _ _ _; intro w5 b8 o5))
  subst hnr
  exact bodyPost_ret (v := .agg #[.int .i64 0, .int .i64 0, .slice none 0 0, .slice AR fr.length cr, .int .i64 ca]) (results_blk Try.results12 _ _ (w.heap.size + 1) 36 [.int .i64 0, .int .i64 0, .slice none 0 0, .slice AR fr.length cr, .int .i64 ca] _ rfl b8 Try.underlying36 rfl (wd_sz _ _ _ _ _)) rfl
    ⟨_, _, _, _, rfl, ⟨rfl, fun h => absurd h (by simp)⟩, hAR.only_ne o5 (fun ad e => by have := hna ad e; omega), Below.only lx o5 (by omega)⟩
set_option maxRecDepth 100000 in
set_option maxHeartbeats 4000000 in
theorem rwalk_e3 (A : Option Addr) (n c : Nat) (root va acc : Int) (us : Bool) (w : World) (h1 : 1 ≤ n ∧ n ≤ 64) (hv : 0 ≤ va ∧ va ≤ 4294967295) (ca : Int) (HC : Hid (∀ w', Calls Try.prog 32 #[.int .i64 acc] w' fun r w'' => r = .returned (.int .i64 ca) ∧ w' = w'')) (hr : 0 ≤ root ∧ root ≤ 4294967295) (h0 : root ≠ 0) (hlt : va < 131072) (hp : Tm.pageB n root = true) (fa fe : Int) (fr : List Int) (nr : Nat) (hnr : fr.length = nr) (pg : Int) (hpg : 0 ≤ pg ∧ pg < 1099511627776) (hp2 : Tm.pageB n pg = true) (he : 0 ≤ fe ∧ fe ≤ 4294967295) (ha : 1 ≤ acc ∧ acc ≤ 4) (hal : Tm.allows fe acc us = false) (KF : Hid (∀ w', Later w w' → Calls Try.prog 35 #[.agg #[.slice A n c], .int .i64 root, .int .i64 va] w' fun r w'' => GotLg fa fe pg fr nr true w' r w'')) :
    Calls Try.prog 12 #[.agg #[.slice A n c], .int .u32 root, .int .u32 va, .int .i64 acc, .bool us] w (GotRW ⟨false, 0, 0, [], fr⟩ ca w) := by
  have w0 : IntKind.i64.wrap va = va := by rw [IntKind.wrap_i64]; omega
  have H2 := Lib.hid fun w' => rhas_any fe 2 w' ⟨he.1, by omega⟩ (by omega)
  have H8 := Lib.hid fun w' => rhas_any fe 8 w' ⟨he.1, by omega⟩ (by omega)
  have H4 := Lib.hid fun w' => rhas_any fe 4 w' ⟨he.1, by omega⟩ (by omega)
  have d1 : (root == 0) = false := by simpa using h0
  have w3 : IntKind.i64.wrap root = root := by rw [IntKind.wrap_i64]; omega
  have d0 : decide (131072 ≤ va) = false := decide_eq_false (by omega)
  have HP := Lib.hid fun w' => rpage_any A n c root w' h1.2 (by omega)
  rw [hp] at HP
  have HP2 := Lib.hid fun w' => rpage_any A n c pg w' h1.2 hpg
  rw [hp2] at HP2
  clear hpg hp2 hlt h1 hv h0 hr hp
  clear he
  rcases (show acc = 1 ∨ acc = 2 ∨ acc = 3 ∨ acc = 4 by omega) with rfl | rfl | rfl | rfl
  · cases us with
    | false => exact absurd hal (by simp [Tm.allows, Tm.isSt])
    | true =>
      cases hb4 : Tm.has fe 4 with
      | true => exact absurd hal (by simp [Tm.allows, Tm.isSt, hb4])
      | false =>
        rw [hb4] at H4
        clear hal hb4
        have b5 := ((Blk.new w 24 #[.slice A n c] [.slice A n c] rfl).alloc (.cells #[.int .i64 0, .int .i64 0, .slice none 0 0, .slice none 0 0, .int .i64 0] 36)).alloc (.cells #[.int .i64 0, .int .i64 0, .slice none 0 0, .slice none 0 0, .int .i64 ca] 36)
        have b10 := (Blk.new' (w.alloc (.cells #[.slice A n c] 24)) (w.heap.size + 1) 36 #[.int .i64 0, .int .i64 0, .slice none 0 0, .slice none 0 0, .int .i64 0] [.int .i64 0, .int .i64 0, .slice none 0 0, .slice none 0 0, .int .i64 0] (by simp) rfl).alloc (.cells #[.int .i64 0, .int .i64 0, .slice none 0 0, .slice none 0 0, .int .i64 ca] 36)
        have b11 := Blk.new' ((w.alloc (.cells #[.slice A n c] 24)).alloc (.cells #[.int .i64 0, .int .i64 0, .slice none 0 0, .slice none 0 0, .int .i64 0] 36)) (w.heap.size + 1 + 1) 36 #[.int .i64 0, .int .i64 0, .slice none 0 0, .slice none 0 0, .int .i64 ca] [.int .i64 0, .int .i64 0, .slice none 0 0, .slice none 0 0, .int .i64 ca] (by simp) rfl
        have lx := ((later1 w (.cells #[.slice A n c] 24)).alloc (by simp) (.cells #[.int .i64 0, .int .i64 0, .slice none 0 0, .slice none 0 0, .int .i64 0] 36)).alloc (by simp; omega) (.cells #[.int .i64 0, .int .i64 0, .slice none 0 0, .slice none 0 0, .int .i64 ca] 36)
        go_enter Try.func12, Try.ntmps12
        go_upto_region 11 with (first
          | (go_at_call 32; refine (HC.out _).mono ?_; rintro e w1 ⟨rfl, rfl⟩)
          | (go_at_call 34; refine (HP.out _).mono ?_; rintro e w2 ⟨rfl, l2⟩; replace b5 := b5.keep l2; replace b10 := b10.keep l2; replace b11 := b11.keep l2; replace lx := Later.trans_ lx l2; have c5 := b5.cell (j := 0) (v := .slice A n c) rfl)
          | (go_at_call 35; refine (KF.out _ lx).mono ?_; have h11 := b11.lt; rintro e w3 ⟨AR, cr, rfl, hAR, hfr, l3⟩; clear c5; replace b5 := b5.keep l3; replace b10 := b10.keep l3; replace b11 := b11.keep l3; replace lx := Later.trans_ lx l3; have c5 := b5.cell (j := 0) (v := .slice A n c) rfl; have c14 := (b11.alloc (.cells #[.int .i64 fa, .int .i64 fe, .int .i64 pg, .slice AR nr cr, .bool true] 74)).cell (j := 3) (v := .slice none 0 0) rfl; have f14 := (b11.alloc (.cells #[.int .i64 fa, .int .i64 fe, .int .i64 pg, .slice AR nr cr, .bool true] 74)).frz 3))
        have h12 := b11.lt
        have bl : Blk ((w3.alloc (.cells #[.int .i64 fa, .int .i64 fe, .int .i64 pg, .slice AR nr cr, .bool true] 74)).setCell ⟨w.heap.size + 1 + 1, 3, none⟩ (.slice AR nr cr)) w3.heap.size 74 [.int .i64 fa, .int .i64 fe, .int .i64 pg, .slice AR nr cr, .bool true] := (Blk.new w3 74 #[.int .i64 fa, .int .i64 fe, .int .i64 pg, .slice AR nr cr, .bool true] [.int .i64 fa, .int .i64 fe, .int .i64 pg, .slice AR nr cr, .bool true] rfl).set_other ⟨w.heap.size + 1 + 1, 3, none⟩ (.slice AR nr cr) (by show w3.heap.size ≠ w.heap.size + 1 + 1; omega)
        replace b5 : Blk ((w3.alloc (.cells #[.int .i64 fa, .int .i64 fe, .int .i64 pg, .slice AR nr cr, .bool true] 74)).setCell ⟨w.heap.size + 1 + 1, 3, none⟩ (.slice AR nr cr)) w.heap.size 24 [.slice A n c] := (b5.alloc (.cells #[.int .i64 fa, .int .i64 fe, .int .i64 pg, .slice AR nr cr, .bool true] 74)).set_other ⟨w.heap.size + 1 + 1, 3, none⟩ (.slice AR nr cr) (by show w.heap.size ≠ w.heap.size + 1 + 1; omega)
        replace b10 : Blk ((w3.alloc (.cells #[.int .i64 fa, .int .i64 fe, .int .i64 pg, .slice AR nr cr, .bool true] 74)).setCell ⟨w.heap.size + 1 + 1, 3, none⟩ (.slice AR nr cr)) (w.heap.size + 1) 36 [.int .i64 0, .int .i64 0, .slice none 0 0, .slice none 0 0, .int .i64 0] := (b10.alloc (.cells #[.int .i64 fa, .int .i64 fe, .int .i64 pg, .slice AR nr cr, .bool true] 74)).set_other ⟨w.heap.size + 1 + 1, 3, none⟩ (.slice AR nr cr) (by show w.heap.size + 1 ≠ w.heap.size + 1 + 1; omega)
        replace b11 : Blk ((w3.alloc (.cells #[.int .i64 fa, .int .i64 fe, .int .i64 pg, .slice AR nr cr, .bool true] 74)).setCell ⟨w.heap.size + 1 + 1, 3, none⟩ (.slice AR nr cr)) (w.heap.size + 1 + 1) 36 [.int .i64 0, .int .i64 0, .slice none 0 0, .slice AR nr cr, .int .i64 ca] := (b11.alloc (.cells #[.int .i64 fa, .int .i64 fe, .int .i64 pg, .slice AR nr cr, .bool true] 74)).set 3 (.slice AR nr cr)
        replace lx : Later w ((w3.alloc (.cells #[.int .i64 fa, .int .i64 fe, .int .i64 pg, .slice AR nr cr, .bool true] 74)).setCell ⟨w.heap.size + 1 + 1, 3, none⟩ (.slice AR nr cr)) := (lx.alloc lx.size (.cells #[.int .i64 fa, .int .i64 fe, .int .i64 pg, .slice AR nr cr, .bool true] 74)).setCell (p := ⟨w.heap.size + 1 + 1, 3, none⟩) (by show w.heap.size ≤ w.heap.size + 1 + 1; omega) (.slice AR nr cr)
        replace hAR : Sl ((w3.alloc (.cells #[.int .i64 fa, .int .i64 fe, .int .i64 pg, .slice AR nr cr, .bool true] 74)).setCell ⟨w.heap.size + 1 + 1, 3, none⟩ (.slice AR nr cr)) 1 AR nr (N64 fr) := (hAR.keep (later1 w3 (.cells #[.int .i64 fa, .int .i64 fe, .int .i64 pg, .slice AR nr cr, .bool true] 74))).only_ne (Only.set _ (w.heap.size + 1 + 1) 3 (.slice AR nr cr)) (fun ad e => by have := hfr ad e; omega)
        have hna : ∀ ad, AR = some ad → w.heap.size + 1 + 1 < ad.block := fun ad e => by have := hfr ad e; omega
        clear c14 f14 c5 h11 hfr l3 l2
        have c5 := b5.cell (j := 0) (v := .slice A n c) rfl
        obtain ⟨u, hu⟩ : ∃ u, u = ((w3.alloc (.cells #[.int .i64 fa, .int .i64 fe, .int .i64 pg, .slice AR nr cr, .bool true] 74)).setCell ⟨w.heap.size + 1 + 1, 3, none⟩ (.slice AR nr cr)) := ⟨_, rfl⟩
        rw [← hu] at bl b5 b10 b11 lx hAR c5 ⊢
        clear hu
        obtain ⟨g, hg⟩ : ∃ g, g = w3.heap.size := ⟨_, rfl⟩
        rw [← hg] at bl h12 ⊢
        clear hg
        have e1 := bl.cell (j := 1) (v := .int .i64 fe) rfl
        have e2 := bl.cell (j := 2) (v := .int .i64 pg) rfl
        have e4 := bl.cell (j := 4) (v := .bool true) rfl
        go_wp2_with (first
          | (go_at_call 34; refine (HP2.out _).mono ?_; rintro e w4 ⟨rfl, l4⟩; clear e1 e2 e4; replace bl := bl.keep l4; replace b10 := b10.keep l4; replace b11 := b11.keep l4; replace lx := Later.trans_ lx l4; replace hAR := hAR.keep l4; have e0 := bl.cell (j := 0) (v := .int .i64 fa) rfl; have e1 := bl.cell (j := 1) (v := .int .i64 fe) rfl; have e2 := bl.cell (j := 2) (v := .int .i64 pg) rfl; have e3 := bl.cell (j := 3) (v := .slice AR nr cr) rfl)
          | (go_at_call 36; (first | (with_reducible refine (H2.out _).mono ?_) | (with_reducible refine (H8.out _).mono ?_) | (with_reducible refine (H4.out _).mono ?_)); rintro r wh ⟨rfl, rfl⟩)
          | ((with_reducible refine wpList_load_blk (o := ⟨some 94, .load 36 (.tmp 11), _, _, _, none⟩) rfl _ _ rfl (w.heap.size + 1 + 1) 36 [.int .i64 0, .int .i64 0, .slice none 0 0, .slice AR nr cr, .int .i64 ca] _ ?_ b11 Try.underlying36 rfl (wd_sz _ _ _ _ _) ?_); rfl)
          | ((with_reducible refine wpList_store_abs (o := ⟨none, .store 36 (.tmp 10) (.tmp 94), _, _, _, none⟩) rfl _ _ _ rfl (w.heap.size + 1) 36 [.int .i64 0, .int .i64 0, .slice none 0 0, .slice none 0 0, .int .i64 0] [.int .i64 0, .int .i64 0, .slice none 0 0, .slice AR nr cr, .int .i64 ca] ?_ ?_ b10 ?_ ?_ ?_ ?_); rfl; rfl; exact wd_sz _ _ _ _ _; rfl; exact wd_one _ _ _ _ _ _ _ _ _; intro w5 b8 o5))
        subst hnr
        exact bodyPost_ret (v := .agg #[.int .i64 0, .int .i64 0, .slice none 0 0, .slice AR fr.length cr, .int .i64 ca]) (results_blk Try.results12 _ _ (w.heap.size + 1) 36 [.int .i64 0, .int .i64 0, .slice none 0 0, .slice AR fr.length cr, .int .i64 ca] _ rfl b8 Try.underlying36 rfl (wd_sz _ _ _ _ _)) rfl
          ⟨_, _, _, _, rfl, ⟨rfl, fun h => absurd h (by simp)⟩, hAR.only_ne o5 (fun ad e => by have := hna ad e; omega), Below.only lx o5 (by omega)⟩
  · cases hb2 : Tm.has fe 2 with
    | false =>
      rw [hb2] at H2
      clear hal hb2
      have b5 := ((Blk.new w 24 #[.slice A n c] [.slice A n c] rfl).alloc (.cells #[.int .i64 0, .int .i64 0, .slice none 0 0, .slice none 0 0, .int .i64 0] 36)).alloc (.cells #[.int .i64 0, .int .i64 0, .slice none 0 0, .slice none 0 0, .int .i64 ca] 36)
      have b10 := (Blk.new' (w.alloc (.cells #[.slice A n c] 24)) (w.heap.size + 1) 36 #[.int .i64 0, .int .i64 0, .slice none 0 0, .slice none 0 0, .int .i64 0] [.int .i64 0, .int .i64 0, .slice none 0 0, .slice none 0 0, .int .i64 0] (by simp) rfl).alloc (.cells #[.int .i64 0, .int .i64 0, .slice none 0 0, .slice none 0 0, .int .i64 ca] 36)
      have b11 := Blk.new' ((w.alloc (.cells #[.slice A n c] 24)).alloc (.cells #[.int .i64 0, .int .i64 0, .slice none 0 0, .slice none 0 0, .int .i64 0] 36)) (w.heap.size + 1 + 1) 36 #[.int .i64 0, .int .i64 0, .slice none 0 0, .slice none 0 0, .int .i64 ca] [.int .i64 0, .int .i64 0, .slice none 0 0, .slice none 0 0, .int .i64 ca] (by simp) rfl
      have lx := ((later1 w (.cells #[.slice A n c] 24)).alloc (by simp) (.cells #[.int .i64 0, .int .i64 0, .slice none 0 0, .slice none 0 0, .int .i64 0] 36)).alloc (by simp; omega) (.cells #[.int .i64 0, .int .i64 0, .slice none 0 0, .slice none 0 0, .int .i64 ca] 36)
      go_enter Try.func12, Try.ntmps12
      go_upto_region 11 with (first
        | (go_at_call 32; refine (HC.out _).mono ?_; rintro e w1 ⟨rfl, rfl⟩)
        | (go_at_call 34; refine (HP.out _).mono ?_; rintro e w2 ⟨rfl, l2⟩; replace b5 := b5.keep l2; replace b10 := b10.keep l2; replace b11 := b11.keep l2; replace lx := Later.trans_ lx l2; have c5 := b5.cell (j := 0) (v := .slice A n c) rfl)
        | (go_at_call 35; refine (KF.out _ lx).mono ?_; have h11 := b11.lt; rintro e w3 ⟨AR, cr, rfl, hAR, hfr, l3⟩; clear c5; replace b5 := b5.keep l3; replace b10 := b10.keep l3; replace b11 := b11.keep l3; replace lx := Later.trans_ lx l3; have c5 := b5.cell (j := 0) (v := .slice A n c) rfl; have c14 := (b11.alloc (.cells #[.int .i64 fa, .int .i64 fe, .int .i64 pg, .slice AR nr cr, .bool true] 74)).cell (j := 3) (v := .slice none 0 0) rfl; have f14 := (b11.alloc (.cells #[.int .i64 fa, .int .i64 fe, .int .i64 pg, .slice AR nr cr, .bool true] 74)).frz 3))
      have h12 := b11.lt
      have bl : Blk ((w3.alloc (.cells #[.int .i64 fa, .int .i64 fe, .int .i64 pg, .slice AR nr cr, .bool true] 74)).setCell ⟨w.heap.size + 1 + 1, 3, none⟩ (.slice AR nr cr)) w3.heap.size 74 [.int .i64 fa, .int .i64 fe, .int .i64 pg, .slice AR nr cr, .bool true] := (Blk.new w3 74 #[.int .i64 fa, .int .i64 fe, .int .i64 pg, .slice AR nr cr, .bool true] [.int .i64 fa, .int .i64 fe, .int .i64 pg, .slice AR nr cr, .bool true] rfl).set_other ⟨w.heap.size + 1 + 1, 3, none⟩ (.slice AR nr cr) (by show w3.heap.size ≠ w.heap.size + 1 + 1; omega)
      replace b5 : Blk ((w3.alloc (.cells #[.int .i64 fa, .int .i64 fe, .int .i64 pg, .slice AR nr cr, .bool true] 74)).setCell ⟨w.heap.size + 1 + 1, 3, none⟩ (.slice AR nr cr)) w.heap.size 24 [.slice A n c] := (b5.alloc (.cells #[.int .i64 fa, .int .i64 fe, .int .i64 pg, .slice AR nr cr, .bool true] 74)).set_other ⟨w.heap.size + 1 + 1, 3, none⟩ (.slice AR nr cr) (by show w.heap.size ≠ w.heap.size + 1 + 1; omega)
      replace b10 : Blk ((w3.alloc (.cells #[.int .i64 fa, .int .i64 fe, .int .i64 pg, .slice AR nr cr, .bool true] 74)).setCell ⟨w.heap.size + 1 + 1, 3, none⟩ (.slice AR nr cr)) (w.heap.size + 1) 36 [.int .i64 0, .int .i64 0, .slice none 0 0, .slice none 0 0, .int .i64 0] := (b10.alloc (.cells #[.int .i64 fa, .int .i64 fe, .int .i64 pg, .slice AR nr cr, .bool true] 74)).set_other ⟨w.heap.size + 1 + 1, 3, none⟩ (.slice AR nr cr) (by show w.heap.size + 1 ≠ w.heap.size + 1 + 1; omega)
      replace b11 : Blk ((w3.alloc (.cells #[.int .i64 fa, .int .i64 fe, .int .i64 pg, .slice AR nr cr, .bool true] 74)).setCell ⟨w.heap.size + 1 + 1, 3, none⟩ (.slice AR nr cr)) (w.heap.size + 1 + 1) 36 [.int .i64 0, .int .i64 0, .slice none 0 0, .slice AR nr cr, .int .i64 ca] := (b11.alloc (.cells #[.int .i64 fa, .int .i64 fe, .int .i64 pg, .slice AR nr cr, .bool true] 74)).set 3 (.slice AR nr cr)
      replace lx : Later w ((w3.alloc (.cells #[.int .i64 fa, .int .i64 fe, .int .i64 pg, .slice AR nr cr, .bool true] 74)).setCell ⟨w.heap.size + 1 + 1, 3, none⟩ (.slice AR nr cr)) := (lx.alloc lx.size (.cells #[.int .i64 fa, .int .i64 fe, .int .i64 pg, .slice AR nr cr, .bool true] 74)).setCell (p := ⟨w.heap.size + 1 + 1, 3, none⟩) (by show w.heap.size ≤ w.heap.size + 1 + 1; omega) (.slice AR nr cr)
      replace hAR : Sl ((w3.alloc (.cells #[.int .i64 fa, .int .i64 fe, .int .i64 pg, .slice AR nr cr, .bool true] 74)).setCell ⟨w.heap.size + 1 + 1, 3, none⟩ (.slice AR nr cr)) 1 AR nr (N64 fr) := (hAR.keep (later1 w3 (.cells #[.int .i64 fa, .int .i64 fe, .int .i64 pg, .slice AR nr cr, .bool true] 74))).only_ne (Only.set _ (w.heap.size + 1 + 1) 3 (.slice AR nr cr)) (fun ad e => by have := hfr ad e; omega)
      have hna : ∀ ad, AR = some ad → w.heap.size + 1 + 1 < ad.block := fun ad e => by have := hfr ad e; omega
      clear c14 f14 c5 h11 hfr l3 l2
      have c5 := b5.cell (j := 0) (v := .slice A n c) rfl
      obtain ⟨u, hu⟩ : ∃ u, u = ((w3.alloc (.cells #[.int .i64 fa, .int .i64 fe, .int .i64 pg, .slice AR nr cr, .bool true] 74)).setCell ⟨w.heap.size + 1 + 1, 3, none⟩ (.slice AR nr cr)) := ⟨_, rfl⟩
      rw [← hu] at bl b5 b10 b11 lx hAR c5 ⊢
      clear hu
      obtain ⟨g, hg⟩ : ∃ g, g = w3.heap.size := ⟨_, rfl⟩
      rw [← hg] at bl h12 ⊢
      clear hg
      have e1 := bl.cell (j := 1) (v := .int .i64 fe) rfl
      have e2 := bl.cell (j := 2) (v := .int .i64 pg) rfl
      have e4 := bl.cell (j := 4) (v := .bool true) rfl
      go_wp2_with (first
        | (go_at_call 34; refine (HP2.out _).mono ?_; rintro e w4 ⟨rfl, l4⟩; clear e1 e2 e4; replace bl := bl.keep l4; replace b10 := b10.keep l4; replace b11 := b11.keep l4; replace lx := Later.trans_ lx l4; replace hAR := hAR.keep l4; have e0 := bl.cell (j := 0) (v := .int .i64 fa) rfl; have e1 := bl.cell (j := 1) (v := .int .i64 fe) rfl; have e2 := bl.cell (j := 2) (v := .int .i64 pg) rfl; have e3 := bl.cell (j := 3) (v := .slice AR nr cr) rfl)
        | (go_at_call 36; (first | (with_reducible refine (H2.out _).mono ?_) | (with_reducible refine (H8.out _).mono ?_) | (with_reducible refine (H4.out _).mono ?_)); rintro r wh ⟨rfl, rfl⟩)
        | ((with_reducible refine wpList_load_blk (o := ⟨some 94, .load 36 (.tmp 11), _, _, _, none⟩) rfl _ _ rfl (w.heap.size + 1 + 1) 36 [.int .i64 0, .int .i64 0, .slice none 0 0, .slice AR nr cr, .int .i64 ca] _ ?_ b11 Try.underlying36 rfl (wd_sz _ _ _ _ _) ?_); rfl)
        | ((with_reducible refine wpList_store_abs (o := ⟨none, .store 36 (.tmp 10) (.tmp 94), _, _, _, none⟩) rfl _ _ _ rfl (w.heap.size + 1) 36 [.int .i64 0, .int .i64 0, .slice none 0 0, .slice none 0 0, .int .i64 0] [.int .i64 0, .int .i64 0, .slice none 0 0, .slice AR nr cr, .int .i64 ca] ?_ ?_ b10 ?_ ?_ ?_ ?_); rfl; rfl; exact wd_sz _ _ _ _ _; rfl; exact wd_one _ _ _ _ _ _ _ _ _; intro w5 b8 o5))
      subst hnr
      exact bodyPost_ret (v := .agg #[.int .i64 0, .int .i64 0, .slice none 0 0, .slice AR fr.length cr, .int .i64 ca]) (results_blk Try.results12 _ _ (w.heap.size + 1) 36 [.int .i64 0, .int .i64 0, .slice none 0 0, .slice AR fr.length cr, .int .i64 ca] _ rfl b8 Try.underlying36 rfl (wd_sz _ _ _ _ _)) rfl
        ⟨_, _, _, _, rfl, ⟨rfl, fun h => absurd h (by simp)⟩, hAR.only_ne o5 (fun ad e => by have := hna ad e; omega), Below.only lx o5 (by omega)⟩
    | true =>
      rw [hb2] at H2
      cases us with
      | false => exact absurd hal (by simp [Tm.allows, Tm.isSt, hb2])
      | true =>
        cases hb4 : Tm.has fe 4 with
        | true => exact absurd hal (by simp [Tm.allows, Tm.isSt, hb2, hb4])
        | false =>
          rw [hb4] at H4
          clear hal hb4
          have b5 := ((Blk.new w 24 #[.slice A n c] [.slice A n c] rfl).alloc (.cells #[.int .i64 0, .int .i64 0, .slice none 0 0, .slice none 0 0, .int .i64 0] 36)).alloc (.cells #[.int .i64 0, .int .i64 0, .slice none 0 0, .slice none 0 0, .int .i64 ca] 36)
          have b10 := (Blk.new' (w.alloc (.cells #[.slice A n c] 24)) (w.heap.size + 1) 36 #[.int .i64 0, .int .i64 0, .slice none 0 0, .slice none 0 0, .int .i64 0] [.int .i64 0, .int .i64 0, .slice none 0 0, .slice none 0 0, .int .i64 0] (by simp) rfl).alloc (.cells #[.int .i64 0, .int .i64 0, .slice none 0 0, .slice none 0 0, .int .i64 ca] 36)
          have b11 := Blk.new' ((w.alloc (.cells #[.slice A n c] 24)).alloc (.cells #[.int .i64 0, .int .i64 0, .slice none 0 0, .slice none 0 0, .int .i64 0] 36)) (w.heap.size + 1 + 1) 36 #[.int .i64 0, .int .i64 0, .slice none 0 0, .slice none 0 0, .int .i64 ca] [.int .i64 0, .int .i64 0, .slice none 0 0, .slice none 0 0, .int .i64 ca] (by simp) rfl
          have lx := ((later1 w (.cells #[.slice A n c] 24)).alloc (by simp) (.cells #[.int .i64 0, .int .i64 0, .slice none 0 0, .slice none 0 0, .int .i64 0] 36)).alloc (by simp; omega) (.cells #[.int .i64 0, .int .i64 0, .slice none 0 0, .slice none 0 0, .int .i64 ca] 36)
          go_enter Try.func12, Try.ntmps12
          go_upto_region 11 with (first
            | (go_at_call 32; refine (HC.out _).mono ?_; rintro e w1 ⟨rfl, rfl⟩)
            | (go_at_call 34; refine (HP.out _).mono ?_; rintro e w2 ⟨rfl, l2⟩; replace b5 := b5.keep l2; replace b10 := b10.keep l2; replace b11 := b11.keep l2; replace lx := Later.trans_ lx l2; have c5 := b5.cell (j := 0) (v := .slice A n c) rfl)
            | (go_at_call 35; refine (KF.out _ lx).mono ?_; have h11 := b11.lt; rintro e w3 ⟨AR, cr, rfl, hAR, hfr, l3⟩; clear c5; replace b5 := b5.keep l3; replace b10 := b10.keep l3; replace b11 := b11.keep l3; replace lx := Later.trans_ lx l3; have c5 := b5.cell (j := 0) (v := .slice A n c) rfl; have c14 := (b11.alloc (.cells #[.int .i64 fa, .int .i64 fe, .int .i64 pg, .slice AR nr cr, .bool true] 74)).cell (j := 3) (v := .slice none 0 0) rfl; have f14 := (b11.alloc (.cells #[.int .i64 fa, .int .i64 fe, .int .i64 pg, .slice AR nr cr, .bool true] 74)).frz 3))
          have h12 := b11.lt
          have bl : Blk ((w3.alloc (.cells #[.int .i64 fa, .int .i64 fe, .int .i64 pg, .slice AR nr cr, .bool true] 74)).setCell ⟨w.heap.size + 1 + 1, 3, none⟩ (.slice AR nr cr)) w3.heap.size 74 [.int .i64 fa, .int .i64 fe, .int .i64 pg, .slice AR nr cr, .bool true] := (Blk.new w3 74 #[.int .i64 fa, .int .i64 fe, .int .i64 pg, .slice AR nr cr, .bool true] [.int .i64 fa, .int .i64 fe, .int .i64 pg, .slice AR nr cr, .bool true] rfl).set_other ⟨w.heap.size + 1 + 1, 3, none⟩ (.slice AR nr cr) (by show w3.heap.size ≠ w.heap.size + 1 + 1; omega)
          replace b5 : Blk ((w3.alloc (.cells #[.int .i64 fa, .int .i64 fe, .int .i64 pg, .slice AR nr cr, .bool true] 74)).setCell ⟨w.heap.size + 1 + 1, 3, none⟩ (.slice AR nr cr)) w.heap.size 24 [.slice A n c] := (b5.alloc (.cells #[.int .i64 fa, .int .i64 fe, .int .i64 pg, .slice AR nr cr, .bool true] 74)).set_other ⟨w.heap.size + 1 + 1, 3, none⟩ (.slice AR nr cr) (by show w.heap.size ≠ w.heap.size + 1 + 1; omega)
          replace b10 : Blk ((w3.alloc (.cells #[.int .i64 fa, .int .i64 fe, .int .i64 pg, .slice AR nr cr, .bool true] 74)).setCell ⟨w.heap.size + 1 + 1, 3, none⟩ (.slice AR nr cr)) (w.heap.size + 1) 36 [.int .i64 0, .int .i64 0, .slice none 0 0, .slice none 0 0, .int .i64 0] := (b10.alloc (.cells #[.int .i64 fa, .int .i64 fe, .int .i64 pg, .slice AR nr cr, .bool true] 74)).set_other ⟨w.heap.size + 1 + 1, 3, none⟩ (.slice AR nr cr) (by show w.heap.size + 1 ≠ w.heap.size + 1 + 1; omega)
          replace b11 : Blk ((w3.alloc (.cells #[.int .i64 fa, .int .i64 fe, .int .i64 pg, .slice AR nr cr, .bool true] 74)).setCell ⟨w.heap.size + 1 + 1, 3, none⟩ (.slice AR nr cr)) (w.heap.size + 1 + 1) 36 [.int .i64 0, .int .i64 0, .slice none 0 0, .slice AR nr cr, .int .i64 ca] := (b11.alloc (.cells #[.int .i64 fa, .int .i64 fe, .int .i64 pg, .slice AR nr cr, .bool true] 74)).set 3 (.slice AR nr cr)
          replace lx : Later w ((w3.alloc (.cells #[.int .i64 fa, .int .i64 fe, .int .i64 pg, .slice AR nr cr, .bool true] 74)).setCell ⟨w.heap.size + 1 + 1, 3, none⟩ (.slice AR nr cr)) := (lx.alloc lx.size (.cells #[.int .i64 fa, .int .i64 fe, .int .i64 pg, .slice AR nr cr, .bool true] 74)).setCell (p := ⟨w.heap.size + 1 + 1, 3, none⟩) (by show w.heap.size ≤ w.heap.size + 1 + 1; omega) (.slice AR nr cr)
          replace hAR : Sl ((w3.alloc (.cells #[.int .i64 fa, .int .i64 fe, .int .i64 pg, .slice AR nr cr, .bool true] 74)).setCell ⟨w.heap.size + 1 + 1, 3, none⟩ (.slice AR nr cr)) 1 AR nr (N64 fr) := (hAR.keep (later1 w3 (.cells #[.int .i64 fa, .int .i64 fe, .int .i64 pg, .slice AR nr cr, .bool true] 74))).only_ne (Only.set _ (w.heap.size + 1 + 1) 3 (.slice AR nr cr)) (fun ad e => by have := hfr ad e; omega)
          have hna : ∀ ad, AR = some ad → w.heap.size + 1 + 1 < ad.block := fun ad e => by have := hfr ad e; omega
          clear c14 f14 c5 h11 hfr l3 l2
          have c5 := b5.cell (j := 0) (v := .slice A n c) rfl
          obtain ⟨u, hu⟩ : ∃ u, u = ((w3.alloc (.cells #[.int .i64 fa, .int .i64 fe, .int .i64 pg, .slice AR nr cr, .bool true] 74)).setCell ⟨w.heap.size + 1 + 1, 3, none⟩ (.slice AR nr cr)) := ⟨_, rfl⟩
          rw [← hu] at bl b5 b10 b11 lx hAR c5 ⊢
          clear hu
          obtain ⟨g, hg⟩ : ∃ g, g = w3.heap.size := ⟨_, rfl⟩
          rw [← hg] at bl h12 ⊢
          clear hg
          have e1 := bl.cell (j := 1) (v := .int .i64 fe) rfl
          have e2 := bl.cell (j := 2) (v := .int .i64 pg) rfl
          have e4 := bl.cell (j := 4) (v := .bool true) rfl
          go_wp2_with (first
            | (go_at_call 34; refine (HP2.out _).mono ?_; rintro e w4 ⟨rfl, l4⟩; clear e1 e2 e4; replace bl := bl.keep l4; replace b10 := b10.keep l4; replace b11 := b11.keep l4; replace lx := Later.trans_ lx l4; replace hAR := hAR.keep l4; have e0 := bl.cell (j := 0) (v := .int .i64 fa) rfl; have e1 := bl.cell (j := 1) (v := .int .i64 fe) rfl; have e2 := bl.cell (j := 2) (v := .int .i64 pg) rfl; have e3 := bl.cell (j := 3) (v := .slice AR nr cr) rfl)
            | (go_at_call 36; (first | (with_reducible refine (H2.out _).mono ?_) | (with_reducible refine (H8.out _).mono ?_) | (with_reducible refine (H4.out _).mono ?_)); rintro r wh ⟨rfl, rfl⟩)
            | ((with_reducible refine wpList_load_blk (o := ⟨some 94, .load 36 (.tmp 11), _, _, _, none⟩) rfl _ _ rfl (w.heap.size + 1 + 1) 36 [.int .i64 0, .int .i64 0, .slice none 0 0, .slice AR nr cr, .int .i64 ca] _ ?_ b11 Try.underlying36 rfl (wd_sz _ _ _ _ _) ?_); rfl)
            | ((with_reducible refine wpList_store_abs (o := ⟨none, .store 36 (.tmp 10) (.tmp 94), _, _, _, none⟩) rfl _ _ _ rfl (w.heap.size + 1) 36 [.int .i64 0, .int .i64 0, .slice none 0 0, .slice none 0 0, .int .i64 0] [.int .i64 0, .int .i64 0, .slice none 0 0, .slice AR nr cr, .int .i64 ca] ?_ ?_ b10 ?_ ?_ ?_ ?_); rfl; rfl; exact wd_sz _ _ _ _ _; rfl; exact wd_one _ _ _ _ _ _ _ _ _; intro w5 b8 o5))
          subst hnr
          exact bodyPost_ret (v := .agg #[.int .i64 0, .int .i64 0, .slice none 0 0, .slice AR fr.length cr, .int .i64 ca]) (results_blk Try.results12 _ _ (w.heap.size + 1) 36 [.int .i64 0, .int .i64 0, .slice none 0 0, .slice AR fr.length cr, .int .i64 ca] _ rfl b8 Try.underlying36 rfl (wd_sz _ _ _ _ _)) rfl
            ⟨_, _, _, _, rfl, ⟨rfl, fun h => absurd h (by simp)⟩, hAR.only_ne o5 (fun ad e => by have := hna ad e; omega), Below.only lx o5 (by omega)⟩
  · cases hb2 : Tm.has fe 2 with
    | false =>
      rw [hb2] at H2
      clear hal hb2
      have b5 := ((Blk.new w 24 #[.slice A n c] [.slice A n c] rfl).alloc (.cells #[.int .i64 0, .int .i64 0, .slice none 0 0, .slice none 0 0, .int .i64 0] 36)).alloc (.cells #[.int .i64 0, .int .i64 0, .slice none 0 0, .slice none 0 0, .int .i64 ca] 36)
      have b10 := (Blk.new' (w.alloc (.cells #[.slice A n c] 24)) (w.heap.size + 1) 36 #[.int .i64 0, .int .i64 0, .slice none 0 0, .slice none 0 0, .int .i64 0] [.int .i64 0, .int .i64 0, .slice none 0 0, .slice none 0 0, .int .i64 0] (by simp) rfl).alloc (.cells #[.int .i64 0, .int .i64 0, .slice none 0 0, .slice none 0 0, .int .i64 ca] 36)
      have b11 := Blk.new' ((w.alloc (.cells #[.slice A n c] 24)).alloc (.cells #[.int .i64 0, .int .i64 0, .slice none 0 0, .slice none 0 0, .int .i64 0] 36)) (w.heap.size + 1 + 1) 36 #[.int .i64 0, .int .i64 0, .slice none 0 0, .slice none 0 0, .int .i64 ca] [.int .i64 0, .int .i64 0, .slice none 0 0, .slice none 0 0, .int .i64 ca] (by simp) rfl
      have lx := ((later1 w (.cells #[.slice A n c] 24)).alloc (by simp) (.cells #[.int .i64 0, .int .i64 0, .slice none 0 0, .slice none 0 0, .int .i64 0] 36)).alloc (by simp; omega) (.cells #[.int .i64 0, .int .i64 0, .slice none 0 0, .slice none 0 0, .int .i64 ca] 36)
      go_enter Try.func12, Try.ntmps12
      go_upto_region 11 with (first
        | (go_at_call 32; refine (HC.out _).mono ?_; rintro e w1 ⟨rfl, rfl⟩)
        | (go_at_call 34; refine (HP.out _).mono ?_; rintro e w2 ⟨rfl, l2⟩; replace b5 := b5.keep l2; replace b10 := b10.keep l2; replace b11 := b11.keep l2; replace lx := Later.trans_ lx l2; have c5 := b5.cell (j := 0) (v := .slice A n c) rfl)
        | (go_at_call 35; refine (KF.out _ lx).mono ?_; have h11 := b11.lt; rintro e w3 ⟨AR, cr, rfl, hAR, hfr, l3⟩; clear c5; replace b5 := b5.keep l3; replace b10 := b10.keep l3; replace b11 := b11.keep l3; replace lx := Later.trans_ lx l3; have c5 := b5.cell (j := 0) (v := .slice A n c) rfl; have c14 := (b11.alloc (.cells #[.int .i64 fa, .int .i64 fe, .int .i64 pg, .slice AR nr cr, .bool true] 74)).cell (j := 3) (v := .slice none 0 0) rfl; have f14 := (b11.alloc (.cells #[.int .i64 fa, .int .i64 fe, .int .i64 pg, .slice AR nr cr, .bool true] 74)).frz 3))
      have h12 := b11.lt
      have bl : Blk ((w3.alloc (.cells #[.int .i64 fa, .int .i64 fe, .int .i64 pg, .slice AR nr cr, .bool true] 74)).setCell ⟨w.heap.size + 1 + 1, 3, none⟩ (.slice AR nr cr)) w3.heap.size 74 [.int .i64 fa, .int .i64 fe, .int .i64 pg, .slice AR nr cr, .bool true] := (Blk.new w3 74 #[.int .i64 fa, .int .i64 fe, .int .i64 pg, .slice AR nr cr, .bool true] [.int .i64 fa, .int .i64 fe, .int .i64 pg, .slice AR nr cr, .bool true] rfl).set_other ⟨w.heap.size + 1 + 1, 3, none⟩ (.slice AR nr cr) (by show w3.heap.size ≠ w.heap.size + 1 + 1; omega)
      replace b5 : Blk ((w3.alloc (.cells #[.int .i64 fa, .int .i64 fe, .int .i64 pg, .slice AR nr cr, .bool true] 74)).setCell ⟨w.heap.size + 1 + 1, 3, none⟩ (.slice AR nr cr)) w.heap.size 24 [.slice A n c] := (b5.alloc (.cells #[.int .i64 fa, .int .i64 fe, .int .i64 pg, .slice AR nr cr, .bool true] 74)).set_other ⟨w.heap.size + 1 + 1, 3, none⟩ (.slice AR nr cr) (by show w.heap.size ≠ w.heap.size + 1 + 1; omega)
      replace b10 : Blk ((w3.alloc (.cells #[.int .i64 fa, .int .i64 fe, .int .i64 pg, .slice AR nr cr, .bool true] 74)).setCell ⟨w.heap.size + 1 + 1, 3, none⟩ (.slice AR nr cr)) (w.heap.size + 1) 36 [.int .i64 0, .int .i64 0, .slice none 0 0, .slice none 0 0, .int .i64 0] := (b10.alloc (.cells #[.int .i64 fa, .int .i64 fe, .int .i64 pg, .slice AR nr cr, .bool true] 74)).set_other ⟨w.heap.size + 1 + 1, 3, none⟩ (.slice AR nr cr) (by show w.heap.size + 1 ≠ w.heap.size + 1 + 1; omega)
      replace b11 : Blk ((w3.alloc (.cells #[.int .i64 fa, .int .i64 fe, .int .i64 pg, .slice AR nr cr, .bool true] 74)).setCell ⟨w.heap.size + 1 + 1, 3, none⟩ (.slice AR nr cr)) (w.heap.size + 1 + 1) 36 [.int .i64 0, .int .i64 0, .slice none 0 0, .slice AR nr cr, .int .i64 ca] := (b11.alloc (.cells #[.int .i64 fa, .int .i64 fe, .int .i64 pg, .slice AR nr cr, .bool true] 74)).set 3 (.slice AR nr cr)
      replace lx : Later w ((w3.alloc (.cells #[.int .i64 fa, .int .i64 fe, .int .i64 pg, .slice AR nr cr, .bool true] 74)).setCell ⟨w.heap.size + 1 + 1, 3, none⟩ (.slice AR nr cr)) := (lx.alloc lx.size (.cells #[.int .i64 fa, .int .i64 fe, .int .i64 pg, .slice AR nr cr, .bool true] 74)).setCell (p := ⟨w.heap.size + 1 + 1, 3, none⟩) (by show w.heap.size ≤ w.heap.size + 1 + 1; omega) (.slice AR nr cr)
      replace hAR : Sl ((w3.alloc (.cells #[.int .i64 fa, .int .i64 fe, .int .i64 pg, .slice AR nr cr, .bool true] 74)).setCell ⟨w.heap.size + 1 + 1, 3, none⟩ (.slice AR nr cr)) 1 AR nr (N64 fr) := (hAR.keep (later1 w3 (.cells #[.int .i64 fa, .int .i64 fe, .int .i64 pg, .slice AR nr cr, .bool true] 74))).only_ne (Only.set _ (w.heap.size + 1 + 1) 3 (.slice AR nr cr)) (fun ad e => by have := hfr ad e; omega)
      have hna : ∀ ad, AR = some ad → w.heap.size + 1 + 1 < ad.block := fun ad e => by have := hfr ad e; omega
      clear c14 f14 c5 h11 hfr l3 l2
      have c5 := b5.cell (j := 0) (v := .slice A n c) rfl
      obtain ⟨u, hu⟩ : ∃ u, u = ((w3.alloc (.cells #[.int .i64 fa, .int .i64 fe, .int .i64 pg, .slice AR nr cr, .bool true] 74)).setCell ⟨w.heap.size + 1 + 1, 3, none⟩ (.slice AR nr cr)) := ⟨_, rfl⟩
      rw [← hu] at bl b5 b10 b11 lx hAR c5 ⊢
      clear hu
      obtain ⟨g, hg⟩ : ∃ g, g = w3.heap.size := ⟨_, rfl⟩
      rw [← hg] at bl h12 ⊢
      clear hg
      have e1 := bl.cell (j := 1) (v := .int .i64 fe) rfl
      have e2 := bl.cell (j := 2) (v := .int .i64 pg) rfl
      have e4 := bl.cell (j := 4) (v := .bool true) rfl
      go_wp2_with (first
        | (go_at_call 34; refine (HP2.out _).mono ?_; rintro e w4 ⟨rfl, l4⟩; clear e1 e2 e4; replace bl := bl.keep l4; replace b10 := b10.keep l4; replace b11 := b11.keep l4; replace lx := Later.trans_ lx l4; replace hAR := hAR.keep l4; have e0 := bl.cell (j := 0) (v := .int .i64 fa) rfl; have e1 := bl.cell (j := 1) (v := .int .i64 fe) rfl; have e2 := bl.cell (j := 2) (v := .int .i64 pg) rfl; have e3 := bl.cell (j := 3) (v := .slice AR nr cr) rfl)
        | (go_at_call 36; (first | (with_reducible refine (H2.out _).mono ?_) | (with_reducible refine (H8.out _).mono ?_) | (with_reducible refine (H4.out _).mono ?_)); rintro r wh ⟨rfl, rfl⟩)
        | ((with_reducible refine wpList_load_blk (o := ⟨some 94, .load 36 (.tmp 11), _, _, _, none⟩) rfl _ _ rfl (w.heap.size + 1 + 1) 36 [.int .i64 0, .int .i64 0, .slice none 0 0, .slice AR nr cr, .int .i64 ca] _ ?_ b11 Try.underlying36 rfl (wd_sz _ _ _ _ _) ?_); rfl)
        | ((with_reducible refine wpList_store_abs (o := ⟨none, .store 36 (.tmp 10) (.tmp 94), _, _, _, none⟩) rfl _ _ _ rfl (w.heap.size + 1) 36 [.int .i64 0, .int .i64 0, .slice none 0 0, .slice none 0 0, .int .i64 0] [.int .i64 0, .int .i64 0, .slice none 0 0, .slice AR nr cr, .int .i64 ca] ?_ ?_ b10 ?_ ?_ ?_ ?_); rfl; rfl; exact wd_sz _ _ _ _ _; rfl; exact wd_one _ _ _ _ _ _ _ _ _; intro w5 b8 o5))
      subst hnr
      exact bodyPost_ret (v := .agg #[.int .i64 0, .int .i64 0, .slice none 0 0, .slice AR fr.length cr, .int .i64 ca]) (results_blk Try.results12 _ _ (w.heap.size + 1) 36 [.int .i64 0, .int .i64 0, .slice none 0 0, .slice AR fr.length cr, .int .i64 ca] _ rfl b8 Try.underlying36 rfl (wd_sz _ _ _ _ _)) rfl
        ⟨_, _, _, _, rfl, ⟨rfl, fun h => absurd h (by simp)⟩, hAR.only_ne o5 (fun ad e => by have := hna ad e; omega), Below.only lx o5 (by omega)⟩
    | true =>
      rw [hb2] at H2
      cases us with
      | false => exact absurd hal (by simp [Tm.allows, Tm.isSt, hb2])
      | true =>
        cases hb4 : Tm.has fe 4 with
        | true => exact absurd hal (by simp [Tm.allows, Tm.isSt, hb2, hb4])
        | false =>
          rw [hb4] at H4
          clear hal hb4
          have b5 := ((Blk.new w 24 #[.slice A n c] [.slice A n c] rfl).alloc (.cells #[.int .i64 0, .int .i64 0, .slice none 0 0, .slice none 0 0, .int .i64 0] 36)).alloc (.cells #[.int .i64 0, .int .i64 0, .slice none 0 0, .slice none 0 0, .int .i64 ca] 36)
          have b10 := (Blk.new' (w.alloc (.cells #[.slice A n c] 24)) (w.heap.size + 1) 36 #[.int .i64 0, .int .i64 0, .slice none 0 0, .slice none 0 0, .int .i64 0] [.int .i64 0, .int .i64 0, .slice none 0 0, .slice none 0 0, .int .i64 0] (by simp) rfl).alloc (.cells #[.int .i64 0, .int .i64 0, .slice none 0 0, .slice none 0 0, .int .i64 ca] 36)
          have b11 := Blk.new' ((w.alloc (.cells #[.slice A n c] 24)).alloc (.cells #[.int .i64 0, .int .i64 0, .slice none 0 0, .slice none 0 0, .int .i64 0] 36)) (w.heap.size + 1 + 1) 36 #[.int .i64 0, .int .i64 0, .slice none 0 0, .slice none 0 0, .int .i64 ca] [.int .i64 0, .int .i64 0, .slice none 0 0, .slice none 0 0, .int .i64 ca] (by simp) rfl
          have lx := ((later1 w (.cells #[.slice A n c] 24)).alloc (by simp) (.cells #[.int .i64 0, .int .i64 0, .slice none 0 0, .slice none 0 0, .int .i64 0] 36)).alloc (by simp; omega) (.cells #[.int .i64 0, .int .i64 0, .slice none 0 0, .slice none 0 0, .int .i64 ca] 36)
          go_enter Try.func12, Try.ntmps12
          go_upto_region 11 with (first
            | (go_at_call 32; refine (HC.out _).mono ?_; rintro e w1 ⟨rfl, rfl⟩)
            | (go_at_call 34; refine (HP.out _).mono ?_; rintro e w2 ⟨rfl, l2⟩; replace b5 := b5.keep l2; replace b10 := b10.keep l2; replace b11 := b11.keep l2; replace lx := Later.trans_ lx l2; have c5 := b5.cell (j := 0) (v := .slice A n c) rfl)
            | (go_at_call 35; refine (KF.out _ lx).mono ?_; have h11 := b11.lt; rintro e w3 ⟨AR, cr, rfl, hAR, hfr, l3⟩; clear c5; replace b5 := b5.keep l3; replace b10 := b10.keep l3; replace b11 := b11.keep l3; replace lx := Later.trans_ lx l3; have c5 := b5.cell (j := 0) (v := .slice A n c) rfl; have c14 := (b11.alloc (.cells #[.int .i64 fa, .int .i64 fe, .int .i64 pg, .slice AR nr cr, .bool true] 74)).cell (j := 3) (v := .slice none 0 0) rfl; have f14 := (b11.alloc (.cells #[.int .i64 fa, .int .i64 fe, .int .i64 pg, .slice AR nr cr, .bool true] 74)).frz 3))
          have h12 := b11.lt
          have bl : Blk ((w3.alloc (.cells #[.int .i64 fa, .int .i64 fe, .int .i64 pg, .slice AR nr cr, .bool true] 74)).setCell ⟨w.heap.size + 1 + 1, 3, none⟩ (.slice AR nr cr)) w3.heap.size 74 [.int .i64 fa, .int .i64 fe, .int .i64 pg, .slice AR nr cr, .bool true] := (Blk.new w3 74 #[.int .i64 fa, .int .i64 fe, .int .i64 pg, .slice AR nr cr, .bool true] [.int .i64 fa, .int .i64 fe, .int .i64 pg, .slice AR nr cr, .bool true] rfl).set_other ⟨w.heap.size + 1 + 1, 3, none⟩ (.slice AR nr cr) (by show w3.heap.size ≠ w.heap.size + 1 + 1; omega)
          replace b5 : Blk ((w3.alloc (.cells #[.int .i64 fa, .int .i64 fe, .int .i64 pg, .slice AR nr cr, .bool true] 74)).setCell ⟨w.heap.size + 1 + 1, 3, none⟩ (.slice AR nr cr)) w.heap.size 24 [.slice A n c] := (b5.alloc (.cells #[.int .i64 fa, .int .i64 fe, .int .i64 pg, .slice AR nr cr, .bool true] 74)).set_other ⟨w.heap.size + 1 + 1, 3, none⟩ (.slice AR nr cr) (by show w.heap.size ≠ w.heap.size + 1 + 1; omega)
          replace b10 : Blk ((w3.alloc (.cells #[.int .i64 fa, .int .i64 fe, .int .i64 pg, .slice AR nr cr, .bool true] 74)).setCell ⟨w.heap.size + 1 + 1, 3, none⟩ (.slice AR nr cr)) (w.heap.size + 1) 36 [.int .i64 0, .int .i64 0, .slice none 0 0, .slice none 0 0, .int .i64 0] := (b10.alloc (.cells #[.int .i64 fa, .int .i64 fe, .int .i64 pg, .slice AR nr cr, .bool true] 74)).set_other ⟨w.heap.size + 1 + 1, 3, none⟩ (.slice AR nr cr) (by show w.heap.size + 1 ≠ w.heap.size + 1 + 1; omega)
          replace b11 : Blk ((w3.alloc (.cells #[.int .i64 fa, .int .i64 fe, .int .i64 pg, .slice AR nr cr, .bool true] 74)).setCell ⟨w.heap.size + 1 + 1, 3, none⟩ (.slice AR nr cr)) (w.heap.size + 1 + 1) 36 [.int .i64 0, .int .i64 0, .slice none 0 0, .slice AR nr cr, .int .i64 ca] := (b11.alloc (.cells #[.int .i64 fa, .int .i64 fe, .int .i64 pg, .slice AR nr cr, .bool true] 74)).set 3 (.slice AR nr cr)
          replace lx : Later w ((w3.alloc (.cells #[.int .i64 fa, .int .i64 fe, .int .i64 pg, .slice AR nr cr, .bool true] 74)).setCell ⟨w.heap.size + 1 + 1, 3, none⟩ (.slice AR nr cr)) := (lx.alloc lx.size (.cells #[.int .i64 fa, .int .i64 fe, .int .i64 pg, .slice AR nr cr, .bool true] 74)).setCell (p := ⟨w.heap.size + 1 + 1, 3, none⟩) (by show w.heap.size ≤ w.heap.size + 1 + 1; omega) (.slice AR nr cr)
          replace hAR : Sl ((w3.alloc (.cells #[.int .i64 fa, .int .i64 fe, .int .i64 pg, .slice AR nr cr, .bool true] 74)).setCell ⟨w.heap.size + 1 + 1, 3, none⟩ (.slice AR nr cr)) 1 AR nr (N64 fr) := (hAR.keep (later1 w3 (.cells #[.int .i64 fa, .int .i64 fe, .int .i64 pg, .slice AR nr cr, .bool true] 74))).only_ne (Only.set _ (w.heap.size + 1 + 1) 3 (.slice AR nr cr)) (fun ad e => by have := hfr ad e; omega)
          have hna : ∀ ad, AR = some ad → w.heap.size + 1 + 1 < ad.block := fun ad e => by have := hfr ad e; omega
          clear c14 f14 c5 h11 hfr l3 l2
          have c5 := b5.cell (j := 0) (v := .slice A n c) rfl
          obtain ⟨u, hu⟩ : ∃ u, u = ((w3.alloc (.cells #[.int .i64 fa, .int .i64 fe, .int .i64 pg, .slice AR nr cr, .bool true] 74)).setCell ⟨w.heap.size + 1 + 1, 3, none⟩ (.slice AR nr cr)) := ⟨_, rfl⟩
          rw [← hu] at bl b5 b10 b11 lx hAR c5 ⊢
          clear hu
          obtain ⟨g, hg⟩ : ∃ g, g = w3.heap.size := ⟨_, rfl⟩
          rw [← hg] at bl h12 ⊢
          clear hg
          have e1 := bl.cell (j := 1) (v := .int .i64 fe) rfl
          have e2 := bl.cell (j := 2) (v := .int .i64 pg) rfl
          have e4 := bl.cell (j := 4) (v := .bool true) rfl
          go_wp2_with (first
            | (go_at_call 34; refine (HP2.out _).mono ?_; rintro e w4 ⟨rfl, l4⟩; clear e1 e2 e4; replace bl := bl.keep l4; replace b10 := b10.keep l4; replace b11 := b11.keep l4; replace lx := Later.trans_ lx l4; replace hAR := hAR.keep l4; have e0 := bl.cell (j := 0) (v := .int .i64 fa) rfl; have e1 := bl.cell (j := 1) (v := .int .i64 fe) rfl; have e2 := bl.cell (j := 2) (v := .int .i64 pg) rfl; have e3 := bl.cell (j := 3) (v := .slice AR nr cr) rfl)
            | (go_at_call 36; (first | (with_reducible refine (H2.out _).mono ?_) | (with_reducible refine (H8.out _).mono ?_) | (with_reducible refine (H4.out _).mono ?_)); rintro r wh ⟨rfl, rfl⟩)
            | ((with_reducible refine wpList_load_blk (o := ⟨some 94, .load 36 (.tmp 11), _, _, _, none⟩) rfl _ _ rfl (w.heap.size + 1 + 1) 36 [.int .i64 0, .int .i64 0, .slice none 0 0, .slice AR nr cr, .int .i64 ca] _ ?_ b11 Try.underlying36 rfl (wd_sz _ _ _ _ _) ?_); rfl)
            | ((with_reducible refine wpList_store_abs (o := ⟨none, .store 36 (.tmp 10) (.tmp 94), _, _, _, none⟩) rfl _ _ _ rfl (w.heap.size + 1) 36 [.int .i64 0, .int .i64 0, .slice none 0 0, .slice none 0 0, .int .i64 0] [.int .i64 0, .int .i64 0, .slice none 0 0, .slice AR nr cr, .int .i64 ca] ?_ ?_ b10 ?_ ?_ ?_ ?_); rfl; rfl; exact wd_sz _ _ _ _ _; rfl; exact wd_one _ _ _ _ _ _ _ _ _; intro w5 b8 o5))
          subst hnr
          exact bodyPost_ret (v := .agg #[.int .i64 0, .int .i64 0, .slice none 0 0, .slice AR fr.length cr, .int .i64 ca]) (results_blk Try.results12 _ _ (w.heap.size + 1) 36 [.int .i64 0, .int .i64 0, .slice none 0 0, .slice AR fr.length cr, .int .i64 ca] _ rfl b8 Try.underlying36 rfl (wd_sz _ _ _ _ _)) rfl
            ⟨_, _, _, _, rfl, ⟨rfl, fun h => absurd h (by simp)⟩, hAR.only_ne o5 (fun ad e => by have := hna ad e; omega), Below.only lx o5 (by omega)⟩
  · cases hb8 : Tm.has fe 8 with
    | false =>
      rw [hb8] at H8
      clear hal hb8
      have b5 := ((Blk.new w 24 #[.slice A n c] [.slice A n c] rfl).alloc (.cells #[.int .i64 0, .int .i64 0, .slice none 0 0, .slice none 0 0, .int .i64 0] 36)).alloc (.cells #[.int .i64 0, .int .i64 0, .slice none 0 0, .slice none 0 0, .int .i64 ca] 36)
      have b10 := (Blk.new' (w.alloc (.cells #[.slice A n c] 24)) (w.heap.size + 1) 36 #[.int .i64 0, .int .i64 0, .slice none 0 0, .slice none 0 0, .int .i64 0] [.int .i64 0, .int .i64 0, .slice none 0 0, .slice none 0 0, .int .i64 0] (by simp) rfl).alloc (.cells #[.int .i64 0, .int .i64 0, .slice none 0 0, .slice none 0 0, .int .i64 ca] 36)
      have b11 := Blk.new' ((w.alloc (.cells #[.slice A n c] 24)).alloc (.cells #[.int .i64 0, .int .i64 0, .slice none 0 0, .slice none 0 0, .int .i64 0] 36)) (w.heap.size + 1 + 1) 36 #[.int .i64 0, .int .i64 0, .slice none 0 0, .slice none 0 0, .int .i64 ca] [.int .i64 0, .int .i64 0, .slice none 0 0, .slice none 0 0, .int .i64 ca] (by simp) rfl
      have lx := ((later1 w (.cells #[.slice A n c] 24)).alloc (by simp) (.cells #[.int .i64 0, .int .i64 0, .slice none 0 0, .slice none 0 0, .int .i64 0] 36)).alloc (by simp; omega) (.cells #[.int .i64 0, .int .i64 0, .slice none 0 0, .slice none 0 0, .int .i64 ca] 36)
      go_enter Try.func12, Try.ntmps12
      go_upto_region 11 with (first
        | (go_at_call 32; refine (HC.out _).mono ?_; rintro e w1 ⟨rfl, rfl⟩)
        | (go_at_call 34; refine (HP.out _).mono ?_; rintro e w2 ⟨rfl, l2⟩; replace b5 := b5.keep l2; replace b10 := b10.keep l2; replace b11 := b11.keep l2; replace lx := Later.trans_ lx l2; have c5 := b5.cell (j := 0) (v := .slice A n c) rfl)
        | (go_at_call 35; refine (KF.out _ lx).mono ?_; have h11 := b11.lt; rintro e w3 ⟨AR, cr, rfl, hAR, hfr, l3⟩; clear c5; replace b5 := b5.keep l3; replace b10 := b10.keep l3; replace b11 := b11.keep l3; replace lx := Later.trans_ lx l3; have c5 := b5.cell (j := 0) (v := .slice A n c) rfl; have c14 := (b11.alloc (.cells #[.int .i64 fa, .int .i64 fe, .int .i64 pg, .slice AR nr cr, .bool true] 74)).cell (j := 3) (v := .slice none 0 0) rfl; have f14 := (b11.alloc (.cells #[.int .i64 fa, .int .i64 fe, .int .i64 pg, .slice AR nr cr, .bool true] 74)).frz 3))
      have h12 := b11.lt
      have bl : Blk ((w3.alloc (.cells #[.int .i64 fa, .int .i64 fe, .int .i64 pg, .slice AR nr cr, .bool true] 74)).setCell ⟨w.heap.size + 1 + 1, 3, none⟩ (.slice AR nr cr)) w3.heap.size 74 [.int .i64 fa, .int .i64 fe, .int .i64 pg, .slice AR nr cr, .bool true] := (Blk.new w3 74 #[.int .i64 fa, .int .i64 fe, .int .i64 pg, .slice AR nr cr, .bool true] [.int .i64 fa, .int .i64 fe, .int .i64 pg, .slice AR nr cr, .bool true] rfl).set_other ⟨w.heap.size + 1 + 1, 3, none⟩ (.slice AR nr cr) (by show w3.heap.size ≠ w.heap.size + 1 + 1; omega)
      replace b5 : Blk ((w3.alloc (.cells #[.int .i64 fa, .int .i64 fe, .int .i64 pg, .slice AR nr cr, .bool true] 74)).setCell ⟨w.heap.size + 1 + 1, 3, none⟩ (.slice AR nr cr)) w.heap.size 24 [.slice A n c] := (b5.alloc (.cells #[.int .i64 fa, .int .i64 fe, .int .i64 pg, .slice AR nr cr, .bool true] 74)).set_other ⟨w.heap.size + 1 + 1, 3, none⟩ (.slice AR nr cr) (by show w.heap.size ≠ w.heap.size + 1 + 1; omega)
      replace b10 : Blk ((w3.alloc (.cells #[.int .i64 fa, .int .i64 fe, .int .i64 pg, .slice AR nr cr, .bool true] 74)).setCell ⟨w.heap.size + 1 + 1, 3, none⟩ (.slice AR nr cr)) (w.heap.size + 1) 36 [.int .i64 0, .int .i64 0, .slice none 0 0, .slice none 0 0, .int .i64 0] := (b10.alloc (.cells #[.int .i64 fa, .int .i64 fe, .int .i64 pg, .slice AR nr cr, .bool true] 74)).set_other ⟨w.heap.size + 1 + 1, 3, none⟩ (.slice AR nr cr) (by show w.heap.size + 1 ≠ w.heap.size + 1 + 1; omega)
      replace b11 : Blk ((w3.alloc (.cells #[.int .i64 fa, .int .i64 fe, .int .i64 pg, .slice AR nr cr, .bool true] 74)).setCell ⟨w.heap.size + 1 + 1, 3, none⟩ (.slice AR nr cr)) (w.heap.size + 1 + 1) 36 [.int .i64 0, .int .i64 0, .slice none 0 0, .slice AR nr cr, .int .i64 ca] := (b11.alloc (.cells #[.int .i64 fa, .int .i64 fe, .int .i64 pg, .slice AR nr cr, .bool true] 74)).set 3 (.slice AR nr cr)
      replace lx : Later w ((w3.alloc (.cells #[.int .i64 fa, .int .i64 fe, .int .i64 pg, .slice AR nr cr, .bool true] 74)).setCell ⟨w.heap.size + 1 + 1, 3, none⟩ (.slice AR nr cr)) := (lx.alloc lx.size (.cells #[.int .i64 fa, .int .i64 fe, .int .i64 pg, .slice AR nr cr, .bool true] 74)).setCell (p := ⟨w.heap.size + 1 + 1, 3, none⟩) (by show w.heap.size ≤ w.heap.size + 1 + 1; omega) (.slice AR nr cr)
      replace hAR : Sl ((w3.alloc (.cells #[.int .i64 fa, .int .i64 fe, .int .i64 pg, .slice AR nr cr, .bool true] 74)).setCell ⟨w.heap.size + 1 + 1, 3, none⟩ (.slice AR nr cr)) 1 AR nr (N64 fr) := (hAR.keep (later1 w3 (.cells #[.int .i64 fa, .int .i64 fe, .int .i64 pg, .slice AR nr cr, .bool true] 74))).only_ne (Only.set _ (w.heap.size + 1 + 1) 3 (.slice AR nr cr)) (fun ad e => by have := hfr ad e; omega)
      have hna : ∀ ad, AR = some ad → w.heap.size + 1 + 1 < ad.block := fun ad e => by have := hfr ad e; omega
      clear c14 f14 c5 h11 hfr l3 l2
      have c5 := b5.cell (j := 0) (v := .slice A n c) rfl
      obtain ⟨u, hu⟩ : ∃ u, u = ((w3.alloc (.cells #[.int .i64 fa, .int .i64 fe, .int .i64 pg, .slice AR nr cr, .bool true] 74)).setCell ⟨w.heap.size + 1 + 1, 3, none⟩ (.slice AR nr cr)) := ⟨_, rfl⟩
      rw [← hu] at bl b5 b10 b11 lx hAR c5 ⊢
      clear hu
      obtain ⟨g, hg⟩ : ∃ g, g = w3.heap.size := ⟨_, rfl⟩
      rw [← hg] at bl h12 ⊢
      clear hg
      have e1 := bl.cell (j := 1) (v := .int .i64 fe) rfl
      have e2 := bl.cell (j := 2) (v := .int .i64 pg) rfl
      have e4 := bl.cell (j := 4) (v := .bool true) rfl
      go_wp2_with (first
        | (go_at_call 34; refine (HP2.out _).mono ?_; rintro e w4 ⟨rfl, l4⟩; clear e1 e2 e4; replace bl := bl.keep l4; replace b10 := b10.keep l4; replace b11 := b11.keep l4; replace lx := Later.trans_ lx l4; replace hAR := hAR.keep l4; have e0 := bl.cell (j := 0) (v := .int .i64 fa) rfl; have e1 := bl.cell (j := 1) (v := .int .i64 fe) rfl; have e2 := bl.cell (j := 2) (v := .int .i64 pg) rfl; have e3 := bl.cell (j := 3) (v := .slice AR nr cr) rfl)
        | (go_at_call 36; (first | (with_reducible refine (H2.out _).mono ?_) | (with_reducible refine (H8.out _).mono ?_) | (with_reducible refine (H4.out _).mono ?_)); rintro r wh ⟨rfl, rfl⟩)
        | ((with_reducible refine wpList_load_blk (o := ⟨some 94, .load 36 (.tmp 11), _, _, _, none⟩) rfl _ _ rfl (w.heap.size + 1 + 1) 36 [.int .i64 0, .int .i64 0, .slice none 0 0, .slice AR nr cr, .int .i64 ca] _ ?_ b11 Try.underlying36 rfl (wd_sz _ _ _ _ _) ?_); rfl)
        | ((with_reducible refine wpList_store_abs (o := ⟨none, .store 36 (.tmp 10) (.tmp 94), _, _, _, none⟩) rfl _ _ _ rfl (w.heap.size + 1) 36 [.int .i64 0, .int .i64 0, .slice none 0 0, .slice none 0 0, .int .i64 0] [.int .i64 0, .int .i64 0, .slice none 0 0, .slice AR nr cr, .int .i64 ca] ?_ ?_ b10 ?_ ?_ ?_ ?_); rfl; rfl; exact wd_sz _ _ _ _ _; rfl; exact wd_one _ _ _ _ _ _ _ _ _; intro w5 b8 o5))
      subst hnr
      exact bodyPost_ret (v := .agg #[.int .i64 0, .int .i64 0, .slice none 0 0, .slice AR fr.length cr, .int .i64 ca]) (results_blk Try.results12 _ _ (w.heap.size + 1) 36 [.int .i64 0, .int .i64 0, .slice none 0 0, .slice AR fr.length cr, .int .i64 ca] _ rfl b8 Try.underlying36 rfl (wd_sz _ _ _ _ _)) rfl
        ⟨_, _, _, _, rfl, ⟨rfl, fun h => absurd h (by simp)⟩, hAR.only_ne o5 (fun ad e => by have := hna ad e; omega), Below.only lx o5 (by omega)⟩
    | true =>
      rw [hb8] at H8
      cases us with
      | false => exact absurd hal (by simp [Tm.allows, Tm.isSt, hb8])
      | true =>
        cases hb4 : Tm.has fe 4 with
        | true => exact absurd hal (by simp [Tm.allows, Tm.isSt, hb8, hb4])
        | false =>
          rw [hb4] at H4
          clear hal hb4
          have b5 := ((Blk.new w 24 #[.slice A n c] [.slice A n c] rfl).alloc (.cells #[.int .i64 0, .int .i64 0, .slice none 0 0, .slice none 0 0, .int .i64 0] 36)).alloc (.cells #[.int .i64 0, .int .i64 0, .slice none 0 0, .slice none 0 0, .int .i64 ca] 36)
          have b10 := (Blk.new' (w.alloc (.cells #[.slice A n c] 24)) (w.heap.size + 1) 36 #[.int .i64 0, .int .i64 0, .slice none 0 0, .slice none 0 0, .int .i64 0] [.int .i64 0, .int .i64 0, .slice none 0 0, .slice none 0 0, .int .i64 0] (by simp) rfl).alloc (.cells #[.int .i64 0, .int .i64 0, .slice none 0 0, .slice none 0 0, .int .i64 ca] 36)
          have b11 := Blk.new' ((w.alloc (.cells #[.slice A n c] 24)).alloc (.cells #[.int .i64 0, .int .i64 0, .slice none 0 0, .slice none 0 0, .int .i64 0] 36)) (w.heap.size + 1 + 1) 36 #[.int .i64 0, .int .i64 0, .slice none 0 0, .slice none 0 0, .int .i64 ca] [.int .i64 0, .int .i64 0, .slice none 0 0, .slice none 0 0, .int .i64 ca] (by simp) rfl
          have lx := ((later1 w (.cells #[.slice A n c] 24)).alloc (by simp) (.cells #[.int .i64 0, .int .i64 0, .slice none 0 0, .slice none 0 0, .int .i64 0] 36)).alloc (by simp; omega) (.cells #[.int .i64 0, .int .i64 0, .slice none 0 0, .slice none 0 0, .int .i64 ca] 36)
          go_enter Try.func12, Try.ntmps12
          go_upto_region 11 with (first
            | (go_at_call 32; refine (HC.out _).mono ?_; rintro e w1 ⟨rfl, rfl⟩)
            | (go_at_call 34; refine (HP.out _).mono ?_; rintro e w2 ⟨rfl, l2⟩; replace b5 := b5.keep l2; replace b10 := b10.keep l2; replace b11 := b11.keep l2; replace lx := Later.trans_ lx l2; have c5 := b5.cell (j := 0) (v := .slice A n c) rfl)
            | (go_at_call 35; refine (KF.out _ lx).mono ?_; have h11 := b11.lt; rintro e w3 ⟨AR, cr, rfl, hAR, hfr, l3⟩; clear c5; replace b5 := b5.keep l3; replace b10 := b10.keep l3; replace b11 := b11.keep l3; replace lx := Later.trans_ lx l3; have c5 := b5.cell (j := 0) (v := .slice A n c) rfl; have c14 := (b11.alloc (.cells #[.int .i64 fa, .int .i64 fe, .int .i64 pg, .slice AR nr cr, .bool true] 74)).cell (j := 3) (v := .slice none 0 0) rfl; have f14 := (b11.alloc (.cells #[.int .i64 fa, .int .i64 fe, .int .i64 pg, .slice AR nr cr, .bool true] 74)).frz 3))
          have h12 := b11.lt
          have bl : Blk ((w3.alloc (.cells #[.int .i64 fa, .int .i64 fe, .int .i64 pg, .slice AR nr cr, .bool true] 74)).setCell ⟨w.heap.size + 1 + 1, 3, none⟩ (.slice AR nr cr)) w3.heap.size 74 [.int .i64 fa, .int .i64 fe, .int .i64 pg, .slice AR nr cr, .bool true] := (Blk.new w3 74 #[.int .i64 fa, .int .i64 fe, .int .i64 pg, .slice AR nr cr, .bool true] [.int .i64 fa, .int .i64 fe, .int .i64 pg, .slice AR nr cr, .bool true] rfl).set_other ⟨w.heap.size + 1 + 1, 3, none⟩ (.slice AR nr cr) (by show w3.heap.size ≠ w.heap.size + 1 + 1; omega)
          replace b5 : Blk ((w3.alloc (.cells #[.int .i64 fa, .int .i64 fe, .int .i64 pg, .slice AR nr cr, .bool true] 74)).setCell ⟨w.heap.size + 1 + 1, 3, none⟩ (.slice AR nr cr)) w.heap.size 24 [.slice A n c] := (b5.alloc (.cells #[.int .i64 fa, .int .i64 fe, .int .i64 pg, .slice AR nr cr, .bool true] 74)).set_other ⟨w.heap.size + 1 + 1, 3, none⟩ (.slice AR nr cr) (by show w.heap.size ≠ w.heap.size + 1 + 1; omega)
          replace b10 : Blk ((w3.alloc (.cells #[.int .i64 fa, .int .i64 fe, .int .i64 pg, .slice AR nr cr, .bool true] 74)).setCell ⟨w.heap.size + 1 + 1, 3, none⟩ (.slice AR nr cr)) (w.heap.size + 1) 36 [.int .i64 0, .int .i64 0, .slice none 0 0, .slice none 0 0, .int .i64 0] := (b10.alloc (.cells #[.int .i64 fa, .int .i64 fe, .int .i64 pg, .slice AR nr cr, .bool true] 74)).set_other ⟨w.heap.size + 1 + 1, 3, none⟩ (.slice AR nr cr) (by show w.heap.size + 1 ≠ w.heap.size + 1 + 1; omega)
          replace b11 : Blk ((w3.alloc (.cells #[.int .i64 fa, .int .i64 fe, .int .i64 pg, .slice AR nr cr, .bool true] 74)).setCell ⟨w.heap.size + 1 + 1, 3, none⟩ (.slice AR nr cr)) (w.heap.size + 1 + 1) 36 [.int .i64 0, .int .i64 0, .slice none 0 0, .slice AR nr cr, .int .i64 ca] := (b11.alloc (.cells #[.int .i64 fa, .int .i64 fe, .int .i64 pg, .slice AR nr cr, .bool true] 74)).set 3 (.slice AR nr cr)
          replace lx : Later w ((w3.alloc (.cells #[.int .i64 fa, .int .i64 fe, .int .i64 pg, .slice AR nr cr, .bool true] 74)).setCell ⟨w.heap.size + 1 + 1, 3, none⟩ (.slice AR nr cr)) := (lx.alloc lx.size (.cells #[.int .i64 fa, .int .i64 fe, .int .i64 pg, .slice AR nr cr, .bool true] 74)).setCell (p := ⟨w.heap.size + 1 + 1, 3, none⟩) (by show w.heap.size ≤ w.heap.size + 1 + 1; omega) (.slice AR nr cr)
          replace hAR : Sl ((w3.alloc (.cells #[.int .i64 fa, .int .i64 fe, .int .i64 pg, .slice AR nr cr, .bool true] 74)).setCell ⟨w.heap.size + 1 + 1, 3, none⟩ (.slice AR nr cr)) 1 AR nr (N64 fr) := (hAR.keep (later1 w3 (.cells #[.int .i64 fa, .int .i64 fe, .int .i64 pg, .slice AR nr cr, .bool true] 74))).only_ne (Only.set _ (w.heap.size + 1 + 1) 3 (.slice AR nr cr)) (fun ad e => by have := hfr ad e; omega)
          have hna : ∀ ad, AR = some ad → w.heap.size + 1 + 1 < ad.block := fun ad e => by have := hfr ad e; omega
          clear c14 f14 c5 h11 hfr l3 l2
          have c5 := b5.cell (j := 0) (v := .slice A n c) rfl
          obtain ⟨u, hu⟩ : ∃ u, u = ((w3.alloc (.cells #[.int .i64 fa, .int .i64 fe, .int .i64 pg, .slice AR nr cr, .bool true] 74)).setCell ⟨w.heap.size + 1 + 1, 3, none⟩ (.slice AR nr cr)) := ⟨_, rfl⟩
          rw [← hu] at bl b5 b10 b11 lx hAR c5 ⊢
          clear hu
          obtain ⟨g, hg⟩ : ∃ g, g = w3.heap.size := ⟨_, rfl⟩
          rw [← hg] at bl h12 ⊢
          clear hg
          have e1 := bl.cell (j := 1) (v := .int .i64 fe) rfl
          have e2 := bl.cell (j := 2) (v := .int .i64 pg) rfl
          have e4 := bl.cell (j := 4) (v := .bool true) rfl
          go_wp2_with (first
            | (go_at_call 34; refine (HP2.out _).mono ?_; rintro e w4 ⟨rfl, l4⟩; clear e1 e2 e4; replace bl := bl.keep l4; replace b10 := b10.keep l4; replace b11 := b11.keep l4; replace lx := Later.trans_ lx l4; replace hAR := hAR.keep l4; have e0 := bl.cell (j := 0) (v := .int .i64 fa) rfl; have e1 := bl.cell (j := 1) (v := .int .i64 fe) rfl; have e2 := bl.cell (j := 2) (v := .int .i64 pg) rfl; have e3 := bl.cell (j := 3) (v := .slice AR nr cr) rfl)
            | (go_at_call 36; (first | (with_reducible refine (H2.out _).mono ?_) | (with_reducible refine (H8.out _).mono ?_) | (with_reducible refine (H4.out _).mono ?_)); rintro r wh ⟨rfl, rfl⟩)
            | ((with_reducible refine wpList_load_blk (o := ⟨some 94, .load 36 (.tmp 11), _, _, _, none⟩) rfl _ _ rfl (w.heap.size + 1 + 1) 36 [.int .i64 0, .int .i64 0, .slice none 0 0, .slice AR nr cr, .int .i64 ca] _ ?_ b11 Try.underlying36 rfl (wd_sz _ _ _ _ _) ?_); rfl)
            | ((with_reducible refine wpList_store_abs (o := ⟨none, .store 36 (.tmp 10) (.tmp 94), _, _, _, none⟩) rfl _ _ _ rfl (w.heap.size + 1) 36 [.int .i64 0, .int .i64 0, .slice none 0 0, .slice none 0 0, .int .i64 0] [.int .i64 0, .int .i64 0, .slice none 0 0, .slice AR nr cr, .int .i64 ca] ?_ ?_ b10 ?_ ?_ ?_ ?_); rfl; rfl; exact wd_sz _ _ _ _ _; rfl; exact wd_one _ _ _ _ _ _ _ _ _; intro w5 b8 o5))
          subst hnr
          exact bodyPost_ret (v := .agg #[.int .i64 0, .int .i64 0, .slice none 0 0, .slice AR fr.length cr, .int .i64 ca]) (results_blk Try.results12 _ _ (w.heap.size + 1) 36 [.int .i64 0, .int .i64 0, .slice none 0 0, .slice AR fr.length cr, .int .i64 ca] _ rfl b8 Try.underlying36 rfl (wd_sz _ _ _ _ _)) rfl
            ⟨_, _, _, _, rfl, ⟨rfl, fun h => absurd h (by simp)⟩, hAR.only_ne o5 (fun ad e => by have := hna ad e; omega), Below.only lx o5 (by omega)⟩
end Go.Proofs.Ytiaejldknbicdaa
