/-
  THE WALK OF the reference's Decode.
-/
import Derived.Test.YtbnlpkjjdijfmabDoorIsaRh
namespace Go.Proofs.YtbnlpkjjdijfmabDoor
open Go.RowKit Go.ChangeShapes Go.WideShapes Go.ChangeAt

/-- The fields of a word as the reference reads them. -/
def fieldsR (W : Int) : Im.I := if Im.form (W / 67108864) = 1 then ⟨W / 67108864, W / 4194304 % 16, W / 262144 % 16, W / 16384 % 16, 0⟩ else ⟨W / 67108864, W / 4194304 % 16, W / 262144 % 16, 0, Im.immOf W⟩
theorem fieldsR_legal {W : Int} (h : Im.Legal W) : fieldsR W = Im.cut W := by
  have hr := Im.right_cut h
  have hw := h.2
  obtain ⟨X, hX⟩ : ∃ X, X = Im.cut W := ⟨_, rfl⟩
  rw [← hX] at hr hw ⊢
  clear hX h
  obtain ⟨h1, h2, h3, h4, h5, h6⟩ := Im.right_cases hr
  have hop : W / 67108864 = X.op := by rw [← hw]; unfold Im.word; rcases h6 with h6 | h6 | h6 | h6 | h6 <;> omega
  have ha : W / 4194304 % 16 = X.a := by rw [← hw]; unfold Im.word; rcases h6 with h6 | h6 | h6 | h6 | h6 <;> omega
  have hb : W / 262144 % 16 = X.b := by rw [← hw]; unfold Im.word; rcases h6 with h6 | h6 | h6 | h6 | h6 <;> omega
  unfold fieldsR
  rw [hop, ha, hb]
  obtain ⟨op, a, b, c, imm⟩ := X
  dsimp only at *
  by_cases hf : Im.form op = 1
  · rw [if_pos hf]
    have hc : W / 16384 % 16 = c := by rw [← hw]; unfold Im.word; dsimp only; rcases h6 with h6 | h6 | h6 | h6 | h6 <;> omega
    have hi : imm = 0 := by rcases h6 with h6 | h6 | h6 | h6 | h6 <;> omega
    rw [hc, hi]
  · rw [if_neg hf]
    have hi : Im.immOf W = imm := by rw [← hw]; unfold Im.immOf Im.word; dsimp only; split <;> rcases h6 with h6 | h6 | h6 | h6 | h6 <;> omega
    have hc : c = 0 := by rcases h6 with h6 | h6 | h6 | h6 | h6 <;> omega
    rw [hc, hi]
theorem legal_of {W : Int} (h : Im.Right (fieldsR W)) (hw : Im.word (fieldsR W) = W) : Im.Legal W := by
  have h1 := Im.cut_word h
  rw [hw] at h1
  exact ⟨by rw [h1]; exact h.1, by rw [h1]; exact hw⟩
theorem and_i64 (X : Nat) (k : Nat) (hk : k ≤ 26) (hy : X < 4294967296) : bits .and .i64 (X : Int) (((2 ^ k - 1 : Nat) : Int)) = ((X % 2 ^ k : Nat) : Int) := by
  have h2 : 2 ^ k ≤ 2 ^ 26 := Nat.pow_le_pow_right (by decide) hk
  have h0 : 0 < 2 ^ k := Nat.two_pow_pos k
  have h3 : (2 : Nat) ^ 26 = 67108864 := rfl
  show IntKind.i64.wrap ((BitVec.ofInt 64 (X : Int) &&& BitVec.ofInt 64 ((2 ^ k - 1 : Nat) : Int)).toNat : Int) = _
  rw [BitVec.ofInt_natCast, BitVec.ofInt_natCast, BitVec.toNat_and, BitVec.toNat_ofNat, BitVec.toNat_ofNat, Nat.mod_eq_of_lt (by omega), Nat.mod_eq_of_lt (by omega), Nat.and_two_pow_sub_one_eq_mod]
  have := Nat.mod_lt X h0
  exact IntWalk.i64_in _ (by omega)
theorem and_div (W : Int) (D k : Nat) (hk : k ≤ 26) (h : 0 ≤ W ∧ W < 4294967296) (M : Int) (hM : M = ((2 ^ k - 1 : Nat) : Int)) : bits .and .i64 (W / (D : Int)) M = W / (D : Int) % ((2 ^ k : Nat) : Int) := by
  obtain ⟨X, rfl⟩ := Int.eq_ofNat_of_zero_le h.1
  have h1 : X / D ≤ X := Nat.div_le_self _ _
  rw [hM, show ((X : Int) / (D : Int)) = ((X / D : Nat) : Int) from rfl, and_i64 (X / D) k hk (by omega)]
  rfl
def decC (i : Im.I) (b : Bool) : List Value := [.int .i64 i.op, .int .i64 i.a, .int .i64 i.b, .int .i64 i.c, .int .i64 i.imm, .bool b]
theorem dec_one (i : Im.I) (b : Bool) : ∀ v ∈ decC i b, v.oneCell' = true := by
  intro v hv
  unfold decC at hv
  simp only [List.mem_cons, List.not_mem_nil, or_false] at hv
  rcases hv with rfl | rfl | rfl | rfl | rfl | rfl <;> rfl
theorem dec_sz (i : Im.I) (b : Bool) : (Tryd.prog.info? 46).map (·.size) = some (decC i b).length := by
  show _ = some 6
  kernel_rfl
theorem dec_len (i j : Im.I) (b c : Bool) : (decC i b).length = (decC j c).length := rfl
set_option maxRecDepth 100000 in
theorem decR_ret {w : World} {fn : Func} {p : Tmp} (h : fn.results = #[.cell p 46]) (tmps : Array Value) (g : Nat) (t : TypeId) (i : Im.I) (b : Bool)
    (hp : tmps.getD p undef = .pointer (some ⟨g, 0, none⟩)) (hg : Blk w g t (decC i b)) : (results fn tmps).run Tryd.prog w = .ok (.agg (decC i b).toArray) w :=
  results_blk h tmps w g t (decC i b) _ hp hg Tryd.underlying46 rfl (dec_sz i b)
set_option maxRecDepth 100000 in
set_option maxHeartbeats 4000000 in
theorem rdec_te (W m A : Int) (w : World) (h : 0 ≤ W ∧ W < 4294967296) (hm : m = W % 262144) (HF : Q 26 #[.int .i64 (W / 67108864)] (.int .i64 1)) (HE : ∀ w', Calls Tryd.prog 10 #[.agg #[.int .i64 (W / 67108864), .int .i64 (W / 4194304 % 16), .int .i64 (W / 262144 % 16), .int .i64 (W / 16384 % 16), .int .i64 0]] w' fun e w'' => e = .returned (.agg #[.int .u32 A, .int .i64 1]) ∧ Later w' w'') :
    Calls Tryd.prog 22 #[.int .u32 W] w fun e w' => e = .returned (.agg (decC ⟨0, 0, 0, 0, 0⟩ false).toArray) ∧ Later w w' := by
  have e1 : bits .and .i64 (W / 4194304) 15 = W / 4194304 % 16 := and_div W 4194304 4 (by decide) h 15 rfl
  have e2 : bits .and .i64 (W / 262144) 15 = W / 262144 % 16 := and_div W 262144 4 (by decide) h 15 rfl
  have e3 : bits .and .i64 (W / 16384) 15 = W / 16384 % 16 := and_div W 16384 4 (by decide) h 15 rfl
  have e4 : bits .and .i64 W 262143 = m := by
    have h2 := and_div W 1 18 (by decide) h 262143 rfl
    rw [show ((1 : Nat) : Int) = 1 from rfl, Int.ediv_one] at h2
    rw [h2, hm]; rfl
  have hmb : 0 ≤ m ∧ m < 262144 := by omega
  have HFF := Lib.hid HF; have HEE := Lib.hid HE
  clear hm HF HE
  go_enter Tryd.func22, Tryd.ntmps22
  go_wp2_with (first
    | (go_at_call 26; refine (HFF.out _).mono ?_; rintro e w1 ⟨rfl, rfl⟩)
    | (go_at_call 10; refine (HEE.out _).mono ?_; rintro e w1 ⟨rfl, h1⟩; have l1 := Later.trans_ ((later1 w _).alloc (by simp) _) h1; have z1 : Blk w1 w.heap.size 46 (decC ⟨0, 0, 0, 0, 0⟩ false) := ((Blk.new _ _ _ _ rfl).alloc _).keep h1; have b1 : Blk w1 (w.heap.size + 1) 23 (Im.I.cells ⟨W / 67108864, W / 4194304 % 16, W / 262144 % 16, (W / 16384 % 16), 0⟩) := (Blk.new' _ _ _ _ _ (by simp) rfl).keep h1; have c0 := fun o => (b1.alloc o).cell (j := 0) rfl; have c1 := fun o => (b1.alloc o).cell (j := 1) rfl; have c2 := fun o => (b1.alloc o).cell (j := 2) rfl; have c3 := fun o => (b1.alloc o).cell (j := 3) rfl; have c4 := fun o => (b1.alloc o).cell (j := 4) rfl)
    | ((with_reducible refine wpList_store_abs (o := ⟨none, .store 46 (.tmp 2) (.tmp 46), _, _, _, none⟩) rfl _ _ _ rfl w.heap.size 46 (decC ⟨0, 0, 0, 0, 0⟩ false) (decC ⟨0, 0, 0, 0, 0⟩ false) ?_ ?_ (z1.alloc _) (dec_sz _ _) (dec_len _ _ _ _) (dec_one _ _) ?_); rfl; rfl; intro w2 y2 o2))
  exact bodyPost_ret (v := .agg (decC ⟨0, 0, 0, 0, 0⟩ false).toArray) (decR_ret Tryd.results22 _ w.heap.size _ ⟨0, 0, 0, 0, 0⟩ false rfl y2) rfl ⟨rfl, Below.only (l1.alloc l1.size _) o2 (Nat.le_refl _)⟩
set_option maxRecDepth 100000 in
set_option maxHeartbeats 4000000 in
theorem rdec_tw (W m A : Int) (w : World) (h : 0 ≤ W ∧ W < 4294967296) (hm : m = W % 262144) (HF : Q 26 #[.int .i64 (W / 67108864)] (.int .i64 1)) (HE : ∀ w', Calls Tryd.prog 10 #[.agg #[.int .i64 (W / 67108864), .int .i64 (W / 4194304 % 16), .int .i64 (W / 262144 % 16), .int .i64 (W / 16384 % 16), .int .i64 0]] w' fun e w'' => e = .returned (.agg #[.int .u32 A, .int .i64 0]) ∧ Later w' w'') (ha : (A != W) = true) :
    Calls Tryd.prog 22 #[.int .u32 W] w fun e w' => e = .returned (.agg (decC ⟨0, 0, 0, 0, 0⟩ false).toArray) ∧ Later w w' := by
  have e1 : bits .and .i64 (W / 4194304) 15 = W / 4194304 % 16 := and_div W 4194304 4 (by decide) h 15 rfl
  have e2 : bits .and .i64 (W / 262144) 15 = W / 262144 % 16 := and_div W 262144 4 (by decide) h 15 rfl
  have e3 : bits .and .i64 (W / 16384) 15 = W / 16384 % 16 := and_div W 16384 4 (by decide) h 15 rfl
  have e4 : bits .and .i64 W 262143 = m := by
    have h2 := and_div W 1 18 (by decide) h 262143 rfl
    rw [show ((1 : Nat) : Int) = 1 from rfl, Int.ediv_one] at h2
    rw [h2, hm]; rfl
  have hmb : 0 ≤ m ∧ m < 262144 := by omega
  have HFF := Lib.hid HF; have HEE := Lib.hid HE
  clear hm HF HE
  go_enter Tryd.func22, Tryd.ntmps22
  go_wp2_with (first
    | (go_at_call 26; refine (HFF.out _).mono ?_; rintro e w1 ⟨rfl, rfl⟩)
    | (go_at_call 10; refine (HEE.out _).mono ?_; rintro e w1 ⟨rfl, h1⟩; have l1 := Later.trans_ ((later1 w _).alloc (by simp) _) h1; have z1 : Blk w1 w.heap.size 46 (decC ⟨0, 0, 0, 0, 0⟩ false) := ((Blk.new _ _ _ _ rfl).alloc _).keep h1; have b1 : Blk w1 (w.heap.size + 1) 23 (Im.I.cells ⟨W / 67108864, W / 4194304 % 16, W / 262144 % 16, (W / 16384 % 16), 0⟩) := (Blk.new' _ _ _ _ _ (by simp) rfl).keep h1; have c0 := fun o => (b1.alloc o).cell (j := 0) rfl; have c1 := fun o => (b1.alloc o).cell (j := 1) rfl; have c2 := fun o => (b1.alloc o).cell (j := 2) rfl; have c3 := fun o => (b1.alloc o).cell (j := 3) rfl; have c4 := fun o => (b1.alloc o).cell (j := 4) rfl)
    | ((with_reducible refine wpList_store_abs (o := ⟨none, .store 46 (.tmp 2) (.tmp 46), _, _, _, none⟩) rfl _ _ _ rfl w.heap.size 46 (decC ⟨0, 0, 0, 0, 0⟩ false) (decC ⟨0, 0, 0, 0, 0⟩ false) ?_ ?_ (z1.alloc _) (dec_sz _ _) (dec_len _ _ _ _) (dec_one _ _) ?_); rfl; rfl; intro w2 y2 o2))
  exact bodyPost_ret (v := .agg (decC ⟨0, 0, 0, 0, 0⟩ false).toArray) (decR_ret Tryd.results22 _ w.heap.size _ ⟨0, 0, 0, 0, 0⟩ false rfl y2) rfl ⟨rfl, Below.only (l1.alloc l1.size _) o2 (Nat.le_refl _)⟩
set_option maxRecDepth 100000 in
set_option maxHeartbeats 4000000 in
theorem rdec_to (W m : Int) (w : World) (h : 0 ≤ W ∧ W < 4294967296) (hm : m = W % 262144) (HF : Q 26 #[.int .i64 (W / 67108864)] (.int .i64 1)) (HE : ∀ w', Calls Tryd.prog 10 #[.agg #[.int .i64 (W / 67108864), .int .i64 (W / 4194304 % 16), .int .i64 (W / 262144 % 16), .int .i64 (W / 16384 % 16), .int .i64 0]] w' fun e w'' => e = .returned (.agg #[.int .u32 W, .int .i64 0]) ∧ Later w' w'') :
    Calls Tryd.prog 22 #[.int .u32 W] w fun e w' => e = .returned (.agg (decC ⟨W / 67108864, W / 4194304 % 16, W / 262144 % 16, (W / 16384 % 16), 0⟩ true).toArray) ∧ Later w w' := by
  have e1 : bits .and .i64 (W / 4194304) 15 = W / 4194304 % 16 := and_div W 4194304 4 (by decide) h 15 rfl
  have e2 : bits .and .i64 (W / 262144) 15 = W / 262144 % 16 := and_div W 262144 4 (by decide) h 15 rfl
  have e3 : bits .and .i64 (W / 16384) 15 = W / 16384 % 16 := and_div W 16384 4 (by decide) h 15 rfl
  have e4 : bits .and .i64 W 262143 = m := by
    have h2 := and_div W 1 18 (by decide) h 262143 rfl
    rw [show ((1 : Nat) : Int) = 1 from rfl, Int.ediv_one] at h2
    rw [h2, hm]; rfl
  have hmb : 0 ≤ m ∧ m < 262144 := by omega
  have HFF := Lib.hid HF; have HEE := Lib.hid HE
  clear hm HF HE
  go_enter Tryd.func22, Tryd.ntmps22
  go_wp2_with (first
    | (go_at_call 26; refine (HFF.out _).mono ?_; rintro e w1 ⟨rfl, rfl⟩)
    | (go_at_call 10; refine (HEE.out _).mono ?_; rintro e w1 ⟨rfl, h1⟩; have l1 := Later.trans_ ((later1 w _).alloc (by simp) _) h1; have z1 : Blk w1 w.heap.size 46 (decC ⟨0, 0, 0, 0, 0⟩ false) := ((Blk.new _ _ _ _ rfl).alloc _).keep h1; have b1 : Blk w1 (w.heap.size + 1) 23 (Im.I.cells ⟨W / 67108864, W / 4194304 % 16, W / 262144 % 16, (W / 16384 % 16), 0⟩) := (Blk.new' _ _ _ _ _ (by simp) rfl).keep h1; have c0 := fun o => (b1.alloc o).cell (j := 0) rfl; have c1 := fun o => (b1.alloc o).cell (j := 1) rfl; have c2 := fun o => (b1.alloc o).cell (j := 2) rfl; have c3 := fun o => (b1.alloc o).cell (j := 3) rfl; have c4 := fun o => (b1.alloc o).cell (j := 4) rfl)
    | ((with_reducible refine wpList_store_abs (o := ⟨none, .store 46 (.tmp 2) (.tmp 48), _, _, _, none⟩) rfl _ _ _ rfl w.heap.size 46 (decC ⟨0, 0, 0, 0, 0⟩ false) (decC ⟨W / 67108864, W / 4194304 % 16, W / 262144 % 16, (W / 16384 % 16), 0⟩ true) ?_ ?_ (z1.alloc _) (dec_sz _ _) (dec_len _ _ _ _) (dec_one _ _) ?_); rfl; rfl; intro w2 y2 o2))
  exact bodyPost_ret (v := .agg (decC ⟨W / 67108864, W / 4194304 % 16, W / 262144 % 16, (W / 16384 % 16), 0⟩ true).toArray) (decR_ret Tryd.results22 _ w.heap.size _ ⟨W / 67108864, W / 4194304 % 16, W / 262144 % 16, (W / 16384 % 16), 0⟩ true rfl y2) rfl ⟨rfl, Below.only (l1.alloc l1.size _) o2 (Nat.le_refl _)⟩
set_option maxRecDepth 100000 in
set_option maxHeartbeats 4000000 in
theorem rdec_pe (W m f A : Int) (w : World) (h : 0 ≤ W ∧ W < 4294967296) (hm : m = W % 262144) (HF : Q 26 #[.int .i64 (W / 67108864)] (.int .i64 f)) (hf : (f == 1) = false) (hg : decide (m > 131071) = false) (HE : ∀ w', Calls Tryd.prog 10 #[.agg #[.int .i64 (W / 67108864), .int .i64 (W / 4194304 % 16), .int .i64 (W / 262144 % 16), .int .i64 0, .int .i64 m]] w' fun e w'' => e = .returned (.agg #[.int .u32 A, .int .i64 1]) ∧ Later w' w'') :
    Calls Tryd.prog 22 #[.int .u32 W] w fun e w' => e = .returned (.agg (decC ⟨0, 0, 0, 0, 0⟩ false).toArray) ∧ Later w w' := by
  have e1 : bits .and .i64 (W / 4194304) 15 = W / 4194304 % 16 := and_div W 4194304 4 (by decide) h 15 rfl
  have e2 : bits .and .i64 (W / 262144) 15 = W / 262144 % 16 := and_div W 262144 4 (by decide) h 15 rfl
  have e3 : bits .and .i64 (W / 16384) 15 = W / 16384 % 16 := and_div W 16384 4 (by decide) h 15 rfl
  have e4 : bits .and .i64 W 262143 = m := by
    have h2 := and_div W 1 18 (by decide) h 262143 rfl
    rw [show ((1 : Nat) : Int) = 1 from rfl, Int.ediv_one] at h2
    rw [h2, hm]; rfl
  have hmb : 0 ≤ m ∧ m < 262144 := by omega
  have HFF := Lib.hid HF; have HEE := Lib.hid HE
  clear hm HF HE
  go_enter Tryd.func22, Tryd.ntmps22
  go_wp2_with (first
    | (go_at_call 26; refine (HFF.out _).mono ?_; rintro e w1 ⟨rfl, rfl⟩)
    | (go_at_call 10; refine (HEE.out _).mono ?_; rintro e w1 ⟨rfl, h1⟩; have l1 := Later.trans_ ((later1 w _).alloc (by simp) _) h1; have z1 : Blk w1 w.heap.size 46 (decC ⟨0, 0, 0, 0, 0⟩ false) := ((Blk.new _ _ _ _ rfl).alloc _).keep h1; have b1 : Blk w1 (w.heap.size + 1) 23 (Im.I.cells ⟨W / 67108864, W / 4194304 % 16, W / 262144 % 16, 0, m⟩) := (Blk.new' _ _ _ _ _ (by simp) rfl).keep h1; have c0 := fun o => (b1.alloc o).cell (j := 0) rfl; have c1 := fun o => (b1.alloc o).cell (j := 1) rfl; have c2 := fun o => (b1.alloc o).cell (j := 2) rfl; have c3 := fun o => (b1.alloc o).cell (j := 3) rfl; have c4 := fun o => (b1.alloc o).cell (j := 4) rfl)
    | ((with_reducible refine wpList_store_abs (o := ⟨none, .store 46 (.tmp 2) (.tmp 46), _, _, _, none⟩) rfl _ _ _ rfl w.heap.size 46 (decC ⟨0, 0, 0, 0, 0⟩ false) (decC ⟨0, 0, 0, 0, 0⟩ false) ?_ ?_ (z1.alloc _) (dec_sz _ _) (dec_len _ _ _ _) (dec_one _ _) ?_); rfl; rfl; intro w2 y2 o2))
  exact bodyPost_ret (v := .agg (decC ⟨0, 0, 0, 0, 0⟩ false).toArray) (decR_ret Tryd.results22 _ w.heap.size _ ⟨0, 0, 0, 0, 0⟩ false rfl y2) rfl ⟨rfl, Below.only (l1.alloc l1.size _) o2 (Nat.le_refl _)⟩
set_option maxRecDepth 100000 in
set_option maxHeartbeats 4000000 in
theorem rdec_pw (W m f A : Int) (w : World) (h : 0 ≤ W ∧ W < 4294967296) (hm : m = W % 262144) (HF : Q 26 #[.int .i64 (W / 67108864)] (.int .i64 f)) (hf : (f == 1) = false) (hg : decide (m > 131071) = false) (HE : ∀ w', Calls Tryd.prog 10 #[.agg #[.int .i64 (W / 67108864), .int .i64 (W / 4194304 % 16), .int .i64 (W / 262144 % 16), .int .i64 0, .int .i64 m]] w' fun e w'' => e = .returned (.agg #[.int .u32 A, .int .i64 0]) ∧ Later w' w'') (ha : (A != W) = true) :
    Calls Tryd.prog 22 #[.int .u32 W] w fun e w' => e = .returned (.agg (decC ⟨0, 0, 0, 0, 0⟩ false).toArray) ∧ Later w w' := by
  have e1 : bits .and .i64 (W / 4194304) 15 = W / 4194304 % 16 := and_div W 4194304 4 (by decide) h 15 rfl
  have e2 : bits .and .i64 (W / 262144) 15 = W / 262144 % 16 := and_div W 262144 4 (by decide) h 15 rfl
  have e3 : bits .and .i64 (W / 16384) 15 = W / 16384 % 16 := and_div W 16384 4 (by decide) h 15 rfl
  have e4 : bits .and .i64 W 262143 = m := by
    have h2 := and_div W 1 18 (by decide) h 262143 rfl
    rw [show ((1 : Nat) : Int) = 1 from rfl, Int.ediv_one] at h2
    rw [h2, hm]; rfl
  have hmb : 0 ≤ m ∧ m < 262144 := by omega
  have HFF := Lib.hid HF; have HEE := Lib.hid HE
  clear hm HF HE
  go_enter Tryd.func22, Tryd.ntmps22
  go_wp2_with (first
    | (go_at_call 26; refine (HFF.out _).mono ?_; rintro e w1 ⟨rfl, rfl⟩)
    | (go_at_call 10; refine (HEE.out _).mono ?_; rintro e w1 ⟨rfl, h1⟩; have l1 := Later.trans_ ((later1 w _).alloc (by simp) _) h1; have z1 : Blk w1 w.heap.size 46 (decC ⟨0, 0, 0, 0, 0⟩ false) := ((Blk.new _ _ _ _ rfl).alloc _).keep h1; have b1 : Blk w1 (w.heap.size + 1) 23 (Im.I.cells ⟨W / 67108864, W / 4194304 % 16, W / 262144 % 16, 0, m⟩) := (Blk.new' _ _ _ _ _ (by simp) rfl).keep h1; have c0 := fun o => (b1.alloc o).cell (j := 0) rfl; have c1 := fun o => (b1.alloc o).cell (j := 1) rfl; have c2 := fun o => (b1.alloc o).cell (j := 2) rfl; have c3 := fun o => (b1.alloc o).cell (j := 3) rfl; have c4 := fun o => (b1.alloc o).cell (j := 4) rfl)
    | ((with_reducible refine wpList_store_abs (o := ⟨none, .store 46 (.tmp 2) (.tmp 46), _, _, _, none⟩) rfl _ _ _ rfl w.heap.size 46 (decC ⟨0, 0, 0, 0, 0⟩ false) (decC ⟨0, 0, 0, 0, 0⟩ false) ?_ ?_ (z1.alloc _) (dec_sz _ _) (dec_len _ _ _ _) (dec_one _ _) ?_); rfl; rfl; intro w2 y2 o2))
  exact bodyPost_ret (v := .agg (decC ⟨0, 0, 0, 0, 0⟩ false).toArray) (decR_ret Tryd.results22 _ w.heap.size _ ⟨0, 0, 0, 0, 0⟩ false rfl y2) rfl ⟨rfl, Below.only (l1.alloc l1.size _) o2 (Nat.le_refl _)⟩
set_option maxRecDepth 100000 in
set_option maxHeartbeats 4000000 in
theorem rdec_po (W m f : Int) (w : World) (h : 0 ≤ W ∧ W < 4294967296) (hm : m = W % 262144) (HF : Q 26 #[.int .i64 (W / 67108864)] (.int .i64 f)) (hf : (f == 1) = false) (hg : decide (m > 131071) = false) (HE : ∀ w', Calls Tryd.prog 10 #[.agg #[.int .i64 (W / 67108864), .int .i64 (W / 4194304 % 16), .int .i64 (W / 262144 % 16), .int .i64 0, .int .i64 m]] w' fun e w'' => e = .returned (.agg #[.int .u32 W, .int .i64 0]) ∧ Later w' w'') :
    Calls Tryd.prog 22 #[.int .u32 W] w fun e w' => e = .returned (.agg (decC ⟨W / 67108864, W / 4194304 % 16, W / 262144 % 16, 0, m⟩ true).toArray) ∧ Later w w' := by
  have e1 : bits .and .i64 (W / 4194304) 15 = W / 4194304 % 16 := and_div W 4194304 4 (by decide) h 15 rfl
  have e2 : bits .and .i64 (W / 262144) 15 = W / 262144 % 16 := and_div W 262144 4 (by decide) h 15 rfl
  have e3 : bits .and .i64 (W / 16384) 15 = W / 16384 % 16 := and_div W 16384 4 (by decide) h 15 rfl
  have e4 : bits .and .i64 W 262143 = m := by
    have h2 := and_div W 1 18 (by decide) h 262143 rfl
    rw [show ((1 : Nat) : Int) = 1 from rfl, Int.ediv_one] at h2
    rw [h2, hm]; rfl
  have hmb : 0 ≤ m ∧ m < 262144 := by omega
  have HFF := Lib.hid HF; have HEE := Lib.hid HE
  clear hm HF HE
  go_enter Tryd.func22, Tryd.ntmps22
  go_wp2_with (first
    | (go_at_call 26; refine (HFF.out _).mono ?_; rintro e w1 ⟨rfl, rfl⟩)
    | (go_at_call 10; refine (HEE.out _).mono ?_; rintro e w1 ⟨rfl, h1⟩; have l1 := Later.trans_ ((later1 w _).alloc (by simp) _) h1; have z1 : Blk w1 w.heap.size 46 (decC ⟨0, 0, 0, 0, 0⟩ false) := ((Blk.new _ _ _ _ rfl).alloc _).keep h1; have b1 : Blk w1 (w.heap.size + 1) 23 (Im.I.cells ⟨W / 67108864, W / 4194304 % 16, W / 262144 % 16, 0, m⟩) := (Blk.new' _ _ _ _ _ (by simp) rfl).keep h1; have c0 := fun o => (b1.alloc o).cell (j := 0) rfl; have c1 := fun o => (b1.alloc o).cell (j := 1) rfl; have c2 := fun o => (b1.alloc o).cell (j := 2) rfl; have c3 := fun o => (b1.alloc o).cell (j := 3) rfl; have c4 := fun o => (b1.alloc o).cell (j := 4) rfl)
    | ((with_reducible refine wpList_store_abs (o := ⟨none, .store 46 (.tmp 2) (.tmp 48), _, _, _, none⟩) rfl _ _ _ rfl w.heap.size 46 (decC ⟨0, 0, 0, 0, 0⟩ false) (decC ⟨W / 67108864, W / 4194304 % 16, W / 262144 % 16, 0, m⟩ true) ?_ ?_ (z1.alloc _) (dec_sz _ _) (dec_len _ _ _ _) (dec_one _ _) ?_); rfl; rfl; intro w2 y2 o2))
  exact bodyPost_ret (v := .agg (decC ⟨W / 67108864, W / 4194304 % 16, W / 262144 % 16, 0, m⟩ true).toArray) (decR_ret Tryd.results22 _ w.heap.size _ ⟨W / 67108864, W / 4194304 % 16, W / 262144 % 16, 0, m⟩ true rfl y2) rfl ⟨rfl, Below.only (l1.alloc l1.size _) o2 (Nat.le_refl _)⟩
set_option maxRecDepth 100000 in
set_option maxHeartbeats 4000000 in
theorem rdec_me (W m f A : Int) (w : World) (h : 0 ≤ W ∧ W < 4294967296) (hm : m = W % 262144) (HF : Q 26 #[.int .i64 (W / 67108864)] (.int .i64 f)) (hf : (f == 1) = false) (hg : decide (m > 131071) = true) (HE : ∀ w', Calls Tryd.prog 10 #[.agg #[.int .i64 (W / 67108864), .int .i64 (W / 4194304 % 16), .int .i64 (W / 262144 % 16), .int .i64 0, .int .i64 (m - 262144)]] w' fun e w'' => e = .returned (.agg #[.int .u32 A, .int .i64 1]) ∧ Later w' w'') :
    Calls Tryd.prog 22 #[.int .u32 W] w fun e w' => e = .returned (.agg (decC ⟨0, 0, 0, 0, 0⟩ false).toArray) ∧ Later w w' := by
  have e1 : bits .and .i64 (W / 4194304) 15 = W / 4194304 % 16 := and_div W 4194304 4 (by decide) h 15 rfl
  have e2 : bits .and .i64 (W / 262144) 15 = W / 262144 % 16 := and_div W 262144 4 (by decide) h 15 rfl
  have e3 : bits .and .i64 (W / 16384) 15 = W / 16384 % 16 := and_div W 16384 4 (by decide) h 15 rfl
  have e4 : bits .and .i64 W 262143 = m := by
    have h2 := and_div W 1 18 (by decide) h 262143 rfl
    rw [show ((1 : Nat) : Int) = 1 from rfl, Int.ediv_one] at h2
    rw [h2, hm]; rfl
  have hmb : 0 ≤ m ∧ m < 262144 := by omega
  have HFF := Lib.hid HF; have HEE := Lib.hid HE
  clear hm HF HE
  go_enter Tryd.func22, Tryd.ntmps22
  go_wp2_with (first
    | (go_at_call 26; refine (HFF.out _).mono ?_; rintro e w1 ⟨rfl, rfl⟩)
    | (go_at_call 10; refine (HEE.out _).mono ?_; rintro e w1 ⟨rfl, h1⟩; have l1 := Later.trans_ ((later1 w _).alloc (by simp) _) h1; have z1 : Blk w1 w.heap.size 46 (decC ⟨0, 0, 0, 0, 0⟩ false) := ((Blk.new _ _ _ _ rfl).alloc _).keep h1; have b1 : Blk w1 (w.heap.size + 1) 23 (Im.I.cells ⟨W / 67108864, W / 4194304 % 16, W / 262144 % 16, 0, (m - 262144)⟩) := (Blk.new' _ _ _ _ _ (by simp) rfl).keep h1; have c0 := fun o => (b1.alloc o).cell (j := 0) rfl; have c1 := fun o => (b1.alloc o).cell (j := 1) rfl; have c2 := fun o => (b1.alloc o).cell (j := 2) rfl; have c3 := fun o => (b1.alloc o).cell (j := 3) rfl; have c4 := fun o => (b1.alloc o).cell (j := 4) rfl)
    | ((with_reducible refine wpList_store_abs (o := ⟨none, .store 46 (.tmp 2) (.tmp 46), _, _, _, none⟩) rfl _ _ _ rfl w.heap.size 46 (decC ⟨0, 0, 0, 0, 0⟩ false) (decC ⟨0, 0, 0, 0, 0⟩ false) ?_ ?_ (z1.alloc _) (dec_sz _ _) (dec_len _ _ _ _) (dec_one _ _) ?_); rfl; rfl; intro w2 y2 o2))
  exact bodyPost_ret (v := .agg (decC ⟨0, 0, 0, 0, 0⟩ false).toArray) (decR_ret Tryd.results22 _ w.heap.size _ ⟨0, 0, 0, 0, 0⟩ false rfl y2) rfl ⟨rfl, Below.only (l1.alloc l1.size _) o2 (Nat.le_refl _)⟩
set_option maxRecDepth 100000 in
set_option maxHeartbeats 4000000 in
theorem rdec_mw (W m f A : Int) (w : World) (h : 0 ≤ W ∧ W < 4294967296) (hm : m = W % 262144) (HF : Q 26 #[.int .i64 (W / 67108864)] (.int .i64 f)) (hf : (f == 1) = false) (hg : decide (m > 131071) = true) (HE : ∀ w', Calls Tryd.prog 10 #[.agg #[.int .i64 (W / 67108864), .int .i64 (W / 4194304 % 16), .int .i64 (W / 262144 % 16), .int .i64 0, .int .i64 (m - 262144)]] w' fun e w'' => e = .returned (.agg #[.int .u32 A, .int .i64 0]) ∧ Later w' w'') (ha : (A != W) = true) :
    Calls Tryd.prog 22 #[.int .u32 W] w fun e w' => e = .returned (.agg (decC ⟨0, 0, 0, 0, 0⟩ false).toArray) ∧ Later w w' := by
  have e1 : bits .and .i64 (W / 4194304) 15 = W / 4194304 % 16 := and_div W 4194304 4 (by decide) h 15 rfl
  have e2 : bits .and .i64 (W / 262144) 15 = W / 262144 % 16 := and_div W 262144 4 (by decide) h 15 rfl
  have e3 : bits .and .i64 (W / 16384) 15 = W / 16384 % 16 := and_div W 16384 4 (by decide) h 15 rfl
  have e4 : bits .and .i64 W 262143 = m := by
    have h2 := and_div W 1 18 (by decide) h 262143 rfl
    rw [show ((1 : Nat) : Int) = 1 from rfl, Int.ediv_one] at h2
    rw [h2, hm]; rfl
  have hmb : 0 ≤ m ∧ m < 262144 := by omega
  have HFF := Lib.hid HF; have HEE := Lib.hid HE
  clear hm HF HE
  go_enter Tryd.func22, Tryd.ntmps22
  go_wp2_with (first
    | (go_at_call 26; refine (HFF.out _).mono ?_; rintro e w1 ⟨rfl, rfl⟩)
    | (go_at_call 10; refine (HEE.out _).mono ?_; rintro e w1 ⟨rfl, h1⟩; have l1 := Later.trans_ ((later1 w _).alloc (by simp) _) h1; have z1 : Blk w1 w.heap.size 46 (decC ⟨0, 0, 0, 0, 0⟩ false) := ((Blk.new _ _ _ _ rfl).alloc _).keep h1; have b1 : Blk w1 (w.heap.size + 1) 23 (Im.I.cells ⟨W / 67108864, W / 4194304 % 16, W / 262144 % 16, 0, (m - 262144)⟩) := (Blk.new' _ _ _ _ _ (by simp) rfl).keep h1; have c0 := fun o => (b1.alloc o).cell (j := 0) rfl; have c1 := fun o => (b1.alloc o).cell (j := 1) rfl; have c2 := fun o => (b1.alloc o).cell (j := 2) rfl; have c3 := fun o => (b1.alloc o).cell (j := 3) rfl; have c4 := fun o => (b1.alloc o).cell (j := 4) rfl)
    | ((with_reducible refine wpList_store_abs (o := ⟨none, .store 46 (.tmp 2) (.tmp 46), _, _, _, none⟩) rfl _ _ _ rfl w.heap.size 46 (decC ⟨0, 0, 0, 0, 0⟩ false) (decC ⟨0, 0, 0, 0, 0⟩ false) ?_ ?_ (z1.alloc _) (dec_sz _ _) (dec_len _ _ _ _) (dec_one _ _) ?_); rfl; rfl; intro w2 y2 o2))
  exact bodyPost_ret (v := .agg (decC ⟨0, 0, 0, 0, 0⟩ false).toArray) (decR_ret Tryd.results22 _ w.heap.size _ ⟨0, 0, 0, 0, 0⟩ false rfl y2) rfl ⟨rfl, Below.only (l1.alloc l1.size _) o2 (Nat.le_refl _)⟩
set_option maxRecDepth 100000 in
set_option maxHeartbeats 4000000 in
theorem rdec_mo (W m f : Int) (w : World) (h : 0 ≤ W ∧ W < 4294967296) (hm : m = W % 262144) (HF : Q 26 #[.int .i64 (W / 67108864)] (.int .i64 f)) (hf : (f == 1) = false) (hg : decide (m > 131071) = true) (HE : ∀ w', Calls Tryd.prog 10 #[.agg #[.int .i64 (W / 67108864), .int .i64 (W / 4194304 % 16), .int .i64 (W / 262144 % 16), .int .i64 0, .int .i64 (m - 262144)]] w' fun e w'' => e = .returned (.agg #[.int .u32 W, .int .i64 0]) ∧ Later w' w'') :
    Calls Tryd.prog 22 #[.int .u32 W] w fun e w' => e = .returned (.agg (decC ⟨W / 67108864, W / 4194304 % 16, W / 262144 % 16, 0, (m - 262144)⟩ true).toArray) ∧ Later w w' := by
  have e1 : bits .and .i64 (W / 4194304) 15 = W / 4194304 % 16 := and_div W 4194304 4 (by decide) h 15 rfl
  have e2 : bits .and .i64 (W / 262144) 15 = W / 262144 % 16 := and_div W 262144 4 (by decide) h 15 rfl
  have e3 : bits .and .i64 (W / 16384) 15 = W / 16384 % 16 := and_div W 16384 4 (by decide) h 15 rfl
  have e4 : bits .and .i64 W 262143 = m := by
    have h2 := and_div W 1 18 (by decide) h 262143 rfl
    rw [show ((1 : Nat) : Int) = 1 from rfl, Int.ediv_one] at h2
    rw [h2, hm]; rfl
  have hmb : 0 ≤ m ∧ m < 262144 := by omega
  have HFF := Lib.hid HF; have HEE := Lib.hid HE
  clear hm HF HE
  go_enter Tryd.func22, Tryd.ntmps22
  go_wp2_with (first
    | (go_at_call 26; refine (HFF.out _).mono ?_; rintro e w1 ⟨rfl, rfl⟩)
    | (go_at_call 10; refine (HEE.out _).mono ?_; rintro e w1 ⟨rfl, h1⟩; have l1 := Later.trans_ ((later1 w _).alloc (by simp) _) h1; have z1 : Blk w1 w.heap.size 46 (decC ⟨0, 0, 0, 0, 0⟩ false) := ((Blk.new _ _ _ _ rfl).alloc _).keep h1; have b1 : Blk w1 (w.heap.size + 1) 23 (Im.I.cells ⟨W / 67108864, W / 4194304 % 16, W / 262144 % 16, 0, (m - 262144)⟩) := (Blk.new' _ _ _ _ _ (by simp) rfl).keep h1; have c0 := fun o => (b1.alloc o).cell (j := 0) rfl; have c1 := fun o => (b1.alloc o).cell (j := 1) rfl; have c2 := fun o => (b1.alloc o).cell (j := 2) rfl; have c3 := fun o => (b1.alloc o).cell (j := 3) rfl; have c4 := fun o => (b1.alloc o).cell (j := 4) rfl)
    | ((with_reducible refine wpList_store_abs (o := ⟨none, .store 46 (.tmp 2) (.tmp 48), _, _, _, none⟩) rfl _ _ _ rfl w.heap.size 46 (decC ⟨0, 0, 0, 0, 0⟩ false) (decC ⟨W / 67108864, W / 4194304 % 16, W / 262144 % 16, 0, (m - 262144)⟩ true) ?_ ?_ (z1.alloc _) (dec_sz _ _) (dec_len _ _ _ _) (dec_one _ _) ?_); rfl; rfl; intro w2 y2 o2))
  exact bodyPost_ret (v := .agg (decC ⟨W / 67108864, W / 4194304 % 16, W / 262144 % 16, 0, (m - 262144)⟩ true).toArray) (decR_ret Tryd.results22 _ w.heap.size _ ⟨W / 67108864, W / 4194304 % 16, W / 262144 % 16, 0, (m - 262144)⟩ true rfl y2) rfl ⟨rfl, Below.only (l1.alloc l1.size _) o2 (Nat.le_refl _)⟩

theorem refDecode_any (W : Int) (h : 0 ≤ W ∧ W < 4294967296) (w : World) :
    Calls Tryd.prog 22 #[.int .u32 W] w fun e w' => e = .returned (.agg (decC (decI W) (decide (Im.Legal W))).toArray) ∧ Later w w' := by
  obtain ⟨m, hm⟩ : ∃ m, m = W % 262144 := ⟨_, rfl⟩
  have HE := fun w' => refEncode_any (fieldsR W) w'
  have HF : Q 26 #[.int .i64 (W / 67108864)] (.int .i64 (Im.form (W / 67108864))) := fun w' => refForm_any _ w'
  unfold encW encE at HE
  have key : (¬ Im.Right (fieldsR W) ∧ decI W = ⟨0, 0, 0, 0, 0⟩ ∧ decide (Im.Legal W) = false) ∨ (Im.Right (fieldsR W) ∧ (Im.word (fieldsR W) != W) = true ∧ decI W = ⟨0, 0, 0, 0, 0⟩ ∧ decide (Im.Legal W) = false) ∨ (Im.Right (fieldsR W) ∧ Im.word (fieldsR W) = W ∧ decI W = fieldsR W ∧ decide (Im.Legal W) = true) := by
    by_cases hr : Im.Right (fieldsR W)
    · by_cases hw : Im.word (fieldsR W) = W
      · have hl := legal_of hr hw
        exact .inr (.inr ⟨hr, hw, by unfold decI; rw [if_pos hl, fieldsR_legal hl], decide_eq_true hl⟩)
      · have hl : ¬ Im.Legal W := fun hl => hw (by rw [fieldsR_legal hl]; exact hl.2)
        exact .inr (.inl ⟨hr, by simpa using hw, by unfold decI; rw [if_neg hl], decide_eq_false hl⟩)
    · have hl : ¬ Im.Legal W := fun hl => hr (by rw [fieldsR_legal hl]; exact Im.right_cut hl)
      exact .inl ⟨hr, by unfold decI; rw [if_neg hl], decide_eq_false hl⟩
  by_cases hf : Im.form (W / 67108864) = 1
  · have e : fieldsR W = ⟨W / 67108864, W / 4194304 % 16, W / 262144 % 16, W / 16384 % 16, 0⟩ := by unfold fieldsR; rw [if_pos hf]
    rw [hf] at HF
    rcases key with ⟨hr, k1, k2⟩ | ⟨hr, hw, k1, k2⟩ | ⟨hr, hw, k1, k2⟩
    · simp only [if_neg hr] at HE
      rw [k1, k2]
      rw [e] at HE
      exact rdec_te W m 0 w h hm HF HE
    · simp only [if_pos hr] at HE
      rw [k1, k2]
      rw [e] at HE hw
      exact rdec_tw W m _ w h hm HF HE hw
    · simp only [if_pos hr, hw] at HE
      rw [k1, k2]
      rw [e] at HE ⊢
      exact rdec_to W m w h hm HF HE
  · have hf' : (Im.form (W / 67108864) == 1) = false := beq_eq_false_iff_ne.2 hf
    by_cases hg : m > 131071
    · have e : fieldsR W = ⟨W / 67108864, W / 4194304 % 16, W / 262144 % 16, 0, m - 262144⟩ := by unfold fieldsR Im.immOf; rw [if_neg hf, ← hm, if_pos hg]
      rcases key with ⟨hr, k1, k2⟩ | ⟨hr, hw, k1, k2⟩ | ⟨hr, hw, k1, k2⟩
      · simp only [if_neg hr] at HE
        rw [k1, k2]
        rw [e] at HE
        exact rdec_me W m _ 0 w h hm HF hf' (decide_eq_true hg) HE
      · simp only [if_pos hr] at HE
        rw [k1, k2]
        rw [e] at HE hw
        exact rdec_mw W m _ _ w h hm HF hf' (decide_eq_true hg) HE hw
      · simp only [if_pos hr, hw] at HE
        rw [k1, k2]
        rw [e] at HE ⊢
        exact rdec_mo W m _ w h hm HF hf' (decide_eq_true hg) HE
    · have e : fieldsR W = ⟨W / 67108864, W / 4194304 % 16, W / 262144 % 16, 0, m⟩ := by unfold fieldsR Im.immOf; rw [if_neg hf, ← hm, if_neg hg]
      rcases key with ⟨hr, k1, k2⟩ | ⟨hr, hw, k1, k2⟩ | ⟨hr, hw, k1, k2⟩
      · simp only [if_neg hr] at HE
        rw [k1, k2]
        rw [e] at HE
        exact rdec_pe W m _ 0 w h hm HF hf' (decide_eq_false hg) HE
      · simp only [if_pos hr] at HE
        rw [k1, k2]
        rw [e] at HE hw
        exact rdec_pw W m _ _ w h hm HF hf' (decide_eq_false hg) HE hw
      · simp only [if_pos hr, hw] at HE
        rw [k1, k2]
        rw [e] at HE ⊢
        exact rdec_po W m _ w h hm HF hf' (decide_eq_false hg) HE
end Go.Proofs.YtbnlpkjjdijfmabDoor
