/-
  THE WALK OF the statements' sanity check.
-/
import Derived.Test.YtoigpokmlohhkaaDoorHashQ
import Derived.Lib.SlBytesConst
namespace Go.Proofs.YtoigpokmlohhkaaDoor
open Go.RowKit

theorem blk3 {w : World} {B : Nat} {b : Wm.Bs} (h : Blk w B 5 (U b)) (n : Nat) (hn : b.length = n) : Sl w 1 (some ⟨B, 0, none⟩) n (U b) := by
  have := h.sl 0 n (by rw [U_length]; omega)
  rwa [List.drop_zero, List.take_of_length_le (by rw [U_length]; omega)] at this
theorem bs_lit {b : Wm.Bs} (h : (b.all fun x => decide (0 ≤ x) && decide (x < 256)) = true) : Wm.isBs b := fun x hx => by
  have := List.all_eq_true.1 h x hx
  simpa using this
theorem abc_len : abc.length = 32 := by kernel_rfl
theorem one_len : one.length = 16 := by kernel_rfl

section
variable (w : World) (tab : Tab w)
include tab
theorem c_sum (w' : World) (hl : Later w w') (B : Nat) (hB : Sl w' 1 (some ⟨B, 0, none⟩) 3 (U [97, 98, 99])) :
    Calls Tryd.prog 21 #[.slice (some ⟨B, 0, none⟩) 3 3] w' fun e w'' => e = .returned (.agg (U abc).toArray) ∧ Later w' w'' :=
  hsum_any _ 3 3 [97, 98, 99] w' hB (bs_lit rfl) (Nat.le_refl _) (by omega) (by omega) (tab.keep hl)
theorem c_add1 (w' : World) (hl : Later w w') (cs : List Value) (hS : StrOf [] cs) :
    Calls Tryd.prog 24 #[.agg cs.toArray, .string ⟨#[97]⟩] w' (Added (bv [97]) w') :=
  strAdd_any [] cs ⟨#[97]⟩ w' hS (by decide) (tab.keep hl)
theorem c_add2 (w' : World) (hl : Later w w') (cs : List Value) (hS : StrOf (bv [97]) cs) :
    Calls Tryd.prog 24 #[.agg cs.toArray, .string ⟨#[98, 99]⟩] w' (Added (bv [97, 98, 99]) w') :=
  strAdd_any (bv [97]) cs ⟨#[98, 99]⟩ w' hS (by decide) (tab.keep hl)
theorem c_ssum (w' : World) (hl : Later w w') (cs : List Value) (hS : StrOf (bv [97, 98, 99]) cs) :
    Calls Tryd.prog 25 #[.agg cs.toArray] w' fun e w'' => e = .returned (.agg (U abc).toArray) ∧ Later w' w'' :=
  strSum_any (bv [97, 98, 99]) cs w' hS (by decide) (tab.keep hl)
theorem c_of (w' : World) (hl : Later w w') :
    Calls Tryd.prog 26 #[.int .i64 1, .slice none 0 0] w' fun e w'' => e = .returned (.agg (U one).toArray) ∧ Later w' w'' := by
  have h := of_any 1 none 0 0 [] w' (Sl.nil _ _ _) (fun s hs => by cases hs) (by omega) (tab.keep hl)
  have e : (shaC (inputB 1 [])).take 16 = U one := by unfold shaC U one; rw [List.map_take]
  rw [e] at h
  exact h
end
theorem c_crc (w' : World) (B : Nat) (hB : Blk w' B 5 (U [254])) :
    Calls Tryd.prog 20 #[.slice (some ⟨B, 0, none⟩) 1 1] w' fun e w'' => e = .returned (.int .i64 75628790) ∧ Later w' w'' := by
  have h := crc40_any (some ⟨B, 0, none⟩) 1 1 [254] w' (blk3 hB 1 rfl) (bs_lit rfl) (by decide)
  rwa [ex_crc] at h
theorem c_words (w' : World) (B : Nat) (hB : Blk w' B 3 (N64 [1099511627774])) :
    Calls Tryd.prog 52 #[.slice (some ⟨B, 0, none⟩) 1 1] w' fun e w'' => e = .returned (.int .i64 1099435999222) ∧ Later w' w'' := by
  have h := words_any (some ⟨B, 0, none⟩) 1 1 [1099511627774] w' (by have := hB.sl 0 1 (by decide); exact this) (by decide)
  rwa [ex_words] at h
theorem c_two : ∃ X0 X1 X2 : Int,
    (∀ w' : World, Calls Tryd.prog 16 #[] w' fun e w'' => e = .returned (.agg #[.int .u64 X0]) ∧ Later w' w'') ∧
    (∀ w' : World, Calls Tryd.prog 17 #[.agg #[.int .u64 X0], .string ⟨#[255]⟩] w' fun e w'' => e = .returned (.agg #[.int .u64 X1]) ∧ Later w' w'') ∧
    (∀ w' : World, Calls Tryd.prog 17 #[.agg #[.int .u64 X1], .string ⟨#[255]⟩] w' fun e w'' => e = .returned (.agg #[.int .u64 X2]) ∧ Later w' w'') ∧
    (∀ w' : World, Calls Tryd.prog 19 #[.agg #[.int .u64 X2]] w' fun e w'' => e = .returned (.int .i64 65535) ∧ Later w' w'') := by
  refine ⟨_, _, _, fun w' => begin_any w', fun w' => add_any _ _ w' (by decide), fun w' => add_any _ _ w' (by decide), fun w' => ?_⟩
  have h := value_any (Hm.bytes (Hm.bytes Hm.ones (bv (sb ⟨#[255]⟩))) (bv (sb ⟨#[255]⟩))) w'
  rwa [ex_two] at h
theorem c_j1 (w' : World) : Calls Tryd.prog 53 #[.int .i64 255, .int .i64 255, .int .i64 1] w' fun e w'' => e = .returned (.int .i64 65535) ∧ w' = w'' := by
  have h := join_any 255 255 1 w' (by decide)
  rwa [ex_j1] at h
theorem c_j2 (w' : World) : Calls Tryd.prog 53 #[.int .i64 255, .int .i64 0, .int .i64 1] w' fun e w'' => e = .returned (.int .i64 65280) ∧ w' = w'' := by
  have h := join_any 255 0 1 w' (by decide)
  rwa [ex_j2] at h
theorem c_j3 (w' : World) : Calls Tryd.prog 53 #[.int .i64 7, .int .i64 9, .int .i64 0] w' fun e w'' => e = .returned (.int .i64 14) ∧ w' = w'' := by
  have h := join_any 7 9 0 w' (by decide)
  rwa [ex_j3] at h
theorem c_b32 (w' : World) : Calls Tryd.prog 55 #[.agg (U abc).toArray] w' fun e w'' => e = .returned (.string (strOfNums abc)) ∧ Later w' w'' :=
  bytes32_any abc w' (iv8_bs _) abc_len
theorem c_text (w' : World) : Calls Tryd.prog 56 #[.agg (U one).toArray] w' fun e w'' => e = .returned (.string (strOfNums one)) ∧ Later w' w'' :=
  text_any one w' (bs_take (iv8_bs _) _) one_len
theorem c_hex1 (w' : World) : Calls Tryd.prog 54 #[.string (strOfNums abc)] w' fun e w'' => e = .returned (.string lit1) ∧ Later w' w'' := by
  have h := hex_any (strOfNums abc) w' (by decide +kernel)
  rwa [ex_abc] at h
theorem c_hex2 (w' : World) : Calls Tryd.prog 54 #[.string (strOfNums one)] w' fun e w'' => e = .returned (.string lit2) ∧ Later w' w'' := by
  have h := hex_any (strOfNums one) w' (by decide +kernel)
  rwa [ex_one] at h

theorem wpList_load_g {P : Program} {ops : Array Oper} {rest : List Oper} {o : Oper} {a : Act} {w : World} {Q : Exit → Act → World → Prop} (ty : TypeId) (x : Operand) (ho : o.op = .load ty x)
    (g : Nat) (t : TypeId) (cs : List Value) (d : TypeDesc) (hw : Region.wanted o (yielded ops a.tmps) = true) (hx : a.eval x = .pointer (some ⟨g, 0, none⟩)) (hg : Blk w g t cs)
    (hu : P.underlying ty = some d) (hd : (match d with | .struct _ | .array _ _ => true | _ => false) = true) (hi : (P.info? ty).map (·.size) = some cs.length)
    (h : wpList P ops Q rest (a.put o.dst (.agg cs.toArray)) w) : wpList P ops Q (o :: rest) a w :=
  wpList_step fun K hK => by
    rw [hw, if_pos rfl]
    exact wp_load_row ty x ho g hx t cs.toArray (0, 0) d hg hu hd (by rw [List.size_toArray]; exact hi) (hK _ _ h)

theorem sl_abc (w : World) : Sl (w.alloc (.cells #[.int .u8 97, .int .u8 98, .int .u8 99] 5 (3, 4))) 1 (some ⟨w.heap.size, 0, none⟩) 3 (U [97, 98, 99]) := by
  have h := heap_alloc_new w (.cells #[.int .u8 97, .int .u8 98, .int .u8 99] 5 (3, 4))
  refine ⟨rfl, fun _ => ⟨_, rfl, Nat.lt_of_lt_of_eq (Nat.lt_succ_self _) (Eq.symm (by simp)), fun j u hu => ?_⟩⟩
  rw [Addr.add_mid]
  unfold World.cell?
  show (match (w.alloc _).heap[w.heap.size]? with | some (.cells c _ _) => c[0 + j]? | _ => none) = some u
  rw [h, Nat.zero_add]
  show (#[Value.int .u8 97, .int .u8 98, .int .u8 99] : Array Value)[j]? = some u
  rw [← hu]; rcases j with _ | _ | _ | j <;> rfl

set_option maxRecDepth 100000 in
set_option maxHeartbeats 4000000 in
theorem sanity_any (w : World) (tab : Tab w) : Calls Tryd.prog 14 #[] w fun e w' => e = .returned (.bool true) ∧ Later w w' := by
  have HS := Lib.hid (c_sum w tab); have HA1 := Lib.hid (c_add1 w tab); have HA2 := Lib.hid (c_add2 w tab); have HSS := Lib.hid (c_ssum w tab); have HOF := Lib.hid (c_of w tab)
  have kc := fun (w : World) (C : Array Value) (n c : Nat) => Lib.run_convert_bytes_const (P := Tryd.prog) w 33 5 C n c Tryd.underlying33 Tryd.underlying5
  have hsO : (Tryd.prog.info? 35).map (·.size) = some (U abc).length := by rw [U_length, abc_len]; kernel_rfl
  have hOl : (PartB [] 32).length = (U abc).length := by rw [U_length, abc_len]; rfl
  have hsD : (Tryd.prog.info? 47).map (·.size) = some (U one).length := by rw [U_length, one_len]; kernel_rfl
  have hDl : (PartB [] 16).length = (U one).length := by rw [U_length, one_len]; rfl
  have HSO := Lib.hid hsO; have HOL := Lib.hid hOl; have HSD := Lib.hid hsD; have HDL := Lib.hid hDl
  have hu32 := Tryd.underlying35
  have hu58 := Tryd.underlying47
  have HU32 := Lib.hid hu32; have HU58 := Lib.hid hu58
  clear hsO hOl hsD hDl hu32 hu58
  have heq : ∀ w' : World, (Op.equalIn 10000 35 (.agg (U abc).toArray) (.agg (U abc).toArray)).run Tryd.prog w' = .ok true w' := fun w' => by rw [sum_eq abc_len abc_len w', decide_eq_true rfl]
  have hgd : Tryd.prog.eqGuardType Tryd.prog.depth 35 = false := by kernel_rfl
  obtain ⟨X0, X1, X2, hx0, hx1, hx2, hx3⟩ := c_two
  have HX0 := Lib.hid hx0; have HX1 := Lib.hid hx1; have HX2 := Lib.hid hx2; have HX3 := Lib.hid hx3
  clear hx0 hx1 hx2 hx3
  have hh1 := c_hex1; have hh2 := c_hex2; unfold lit1 at hh1; unfold lit2 at hh2
  have HH1 := Lib.hid hh1; have HH2 := Lib.hid hh2; clear hh1 hh2
  go_enter Tryd.func14, Tryd.ntmps14
  go_wp2_with (first
    | (go_at_call 21; refine (HS.out _ ((Below.refl _ _).alloc (Nat.le_refl _) _) w.heap.size (sl_abc w)).mono ?_; rintro e w1 ⟨rfl, h1⟩; have l1 : Later w w1 := ((Below.refl _ _).alloc (Nat.le_refl _) _).trans (h1.mono (by simp)))
    | ((with_reducible refine wpList_store_abs (o := ⟨none, .store 35 (.tmp 1) (.tmp 10), _, _, _, none⟩) rfl _ _ _ rfl w1.heap.size 35 (PartB [] 32) (U abc) ?_ ?_ ?_ HSO.out HOL.out (U_one _) ?_); rfl; rfl; exact Blk.new _ _ _ _ rfl; intro w2 y1 y1o; have l2 : Later w w2 := Below.only (l1.alloc l1.size _) y1o l1.size; clear y1o)
    | (go_at_call 23; refine (strBegin_any _).mono ?_; rintro e w3 ⟨c0, rfl, s0, h3⟩; have l3 : Later w w3 := l2.trans (h3.mono l2.size); replace y1 := y1.keep h3)
    | (go_at_call 25; refine (HSS.out _ l5 c2 s2).mono ?_; rintro e w6 ⟨rfl, h6⟩; have l6 : Later w w6 := l5.trans (h6.mono l5.size); replace y1 := y1.keep h6)
    | (go_at_call 24; refine (HA2.out _ l4 c1 s1).mono ?_; rintro e w5 ⟨c2, rfl, s2, h5⟩; have l5 : Later w w5 := l4.trans (h5.mono l4.size); replace y1 := y1.keep h5)
    | (go_at_call 24; refine (HA1.out _ l3 c0 s0).mono ?_; rintro e w4 ⟨c1, rfl, s1, h4⟩; have l4 : Later w w4 := l3.trans (h4.mono l3.size); replace y1 := y1.keep h4)
    | ((with_reducible refine wpList_store_abs (o := ⟨none, .store 35 (.tmp 2) (.tmp 14), _, _, _, none⟩) rfl _ _ _ rfl w6.heap.size 35 (PartB [] 32) (U abc) ?_ ?_ ?_ HSO.out HOL.out (U_one _) ?_); rfl; rfl; exact Blk.new _ _ _ _ rfl; intro w7 y2 y2o; have l7 : Later w w7 := Below.only (l6.alloc l6.size _) y2o l6.size; replace y1 := (y1.alloc _).only y2o (Nat.ne_of_lt y1.lt); clear y2o)
    | (go_at_call 26; refine (HOF.out _ l7).mono ?_; rintro e w8 ⟨rfl, h8⟩; have l8 : Later w w8 := l7.trans (h8.mono l7.size); replace y1 := y1.keep h8; replace y2 := y2.keep h8)
    | ((with_reducible refine wpList_store_abs (o := ⟨none, .store 47 (.tmp 3) (.tmp 15), _, _, _, none⟩) rfl _ _ _ rfl w8.heap.size 47 (PartB [] 16) (U one) ?_ ?_ ?_ HSD.out HDL.out (U_one _) ?_); rfl; rfl; exact Blk.new _ _ _ _ rfl; intro w9 y3 y3o; have l9 : Later w w9 := Below.only (l8.alloc l8.size _) y3o l8.size; replace y1 := (y1.alloc _).only y3o (Nat.ne_of_lt y1.lt); replace y2 := (y2.alloc _).only y3o (Nat.ne_of_lt y2.lt); clear y3o)
    | (go_at_call 20; refine (c_crc _ w9.heap.size (Blk.new _ _ _ _ rfl)).mono ?_; rintro e w10 ⟨rfl, h10⟩; have l10 : Later w w10 := (l9.alloc l9.size _).trans (h10.mono (l9.alloc l9.size _).size); replace y1 := (y1.alloc _).keep h10; replace y2 := (y2.alloc _).keep h10; replace y3 := (y3.alloc _).keep h10)
    | (go_at_call 16; refine (HX0.out _).mono ?_; rintro e w11 ⟨rfl, h11⟩; have l11 : Later w w11 := l10.trans (h11.mono l10.size); replace y1 := y1.keep h11; replace y2 := y2.keep h11; replace y3 := y3.keep h11)
    | (go_at_call 19; refine (HX3.out _).mono ?_; rintro e w14 ⟨rfl, h14⟩; have l14 : Later w w14 := l13.trans (h14.mono l13.size); replace y1 := y1.keep h14; replace y2 := y2.keep h14; replace y3 := y3.keep h14)
    | (go_at_call 17; with_reducible refine (HX2.out w12).mono ?_; rintro e w13 ⟨rfl, h13⟩; have l13 : Later w w13 := l12.trans (h13.mono l12.size); replace y1 := y1.keep h13; replace y2 := y2.keep h13; replace y3 := y3.keep h13)
    | (go_at_call 17; with_reducible refine (HX1.out w11).mono ?_; rintro e w12 ⟨rfl, h12⟩; have l12 : Later w w12 := l11.trans (h12.mono l11.size); replace y1 := y1.keep h12; replace y2 := y2.keep h12; replace y3 := y3.keep h12)
    | (go_at_call 52; refine (c_words _ w14.heap.size (Blk.new _ _ _ _ rfl)).mono ?_; rintro e w15 ⟨rfl, h15⟩; have l15 : Later w w15 := (l14.alloc l14.size _).trans (h15.mono (l14.alloc l14.size _).size); replace y1 := (y1.alloc _).keep h15; replace y2 := (y2.alloc _).keep h15; replace y3 := (y3.alloc _).keep h15)
    | (go_at_call 53; with_reducible refine (c_j1 _).mono ?_; rintro e w' ⟨rfl, rfl⟩)
    | (go_at_call 53; with_reducible refine (c_j2 _).mono ?_; rintro e w' ⟨rfl, rfl⟩)
    | (go_at_call 53; with_reducible refine (c_j3 _).mono ?_; rintro e w' ⟨rfl, rfl⟩)
    | (go_at_call 53; with_reducible refine (join_neg 1 1 (-1) _ (by decide)).mono ?_; rintro e w' ⟨rfl, rfl⟩)
    | ((with_reducible refine wpList_load_blk (o := ⟨some 38, .load 35 (.tmp 1), _, _, _, none⟩) rfl _ _ rfl w1.heap.size 35 (U abc) _ ?_ y1 HU32.out ?_ HSO.out ?_); rfl; rfl)
    | (go_at_call 55; refine (c_b32 _).mono ?_; rintro e w16 ⟨rfl, h16⟩; have l16 : Later w w16 := l15.trans (h16.mono l15.size); replace y1 := y1.keep h16; replace y2 := y2.keep h16; replace y3 := y3.keep h16)
    | (go_at_call 54; with_reducible refine (HH1.out _).mono ?_; rintro e w17 ⟨rfl, h17⟩; have l17 : Later w w17 := l16.trans (h17.mono l16.size); replace y1 := y1.keep h17; replace y2 := y2.keep h17; replace y3 := y3.keep h17)
    | ((with_reducible refine wpList_load_g (o := ⟨some 43, .load 35 (.tmp 1), _, _, _, _⟩) _ _ rfl w1.heap.size 35 (U abc) _ ?_ ?_ y1 HU32.out ?_ HSO.out ?_); rfl; rfl; rfl)
    | ((with_reducible refine wpList_load_g (o := ⟨some 44, .load 35 (.tmp 2), _, _, _, _⟩) _ _ rfl w6.heap.size 35 (U abc) _ ?_ ?_ y2 HU32.out ?_ HSO.out ?_); rfl; rfl; rfl)
    | ((with_reducible refine wpList_load_g (o := ⟨some 48, .load 47 (.tmp 3), _, _, _, _⟩) _ _ rfl w8.heap.size 47 (U one) _ ?_ ?_ y3 HU58.out ?_ HSD.out ?_); rfl; rfl; rfl)
    | (go_at_call 56; refine (c_text _).mono ?_; rintro e w18 ⟨rfl, h18⟩; have l18 : Later w w18 := l17.trans (h18.mono l17.size))
    | (go_at_call 54; with_reducible refine (HH2.out _).mono ?_; rintro e w19 ⟨rfl, h19⟩; have l19 : Later w w19 := l18.trans (h19.mono l18.size)))
  go_ret
  exact ⟨rfl, l19⟩
end Go.Proofs.YtoigpokmlohhkaaDoor
