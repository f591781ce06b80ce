/-
  THE WALK OF Digest, example AND second; what the calls answer for an image as it lies.
-/
import Derived.Test.YtjfphjgmphlbhaaDoorJo
import Derived.Test.YtjfphjgmphlbhaaDoorJh
import Derived.Test.YtjfphjgmphlbhaaDoorJj
namespace Go.Proofs.YtjfphjgmphlbhaaDoor
open Go.RowKit Go.ChangeShapes Go.WideShapes Go.ChangeAt

set_option maxRecDepth 100000 in
def sAB : ByteArray := ⟨#[97, 98]⟩
set_option maxRecDepth 100000 in
def sC : ByteArray := ⟨#[99]⟩
set_option maxRecDepth 100000 in
def X0 : Dat := ⟨4, 1, [(0, sAB), (4, sC)], [], 0⟩
set_option maxRecDepth 100000 in
def X2 (at0 : Int) : Dat := ⟨4, 1, [(0, sAB), (at0, sC)], [], 0⟩
set_option maxRecDepth 100000 in
theorem blk_seg2 {w : World} {B : Nat} {t : TypeId} (x y : Im.Seg) (h : Blk w B t [.int .i64 x.1, .string x.2, .int .i64 y.1, .string y.2]) : Sl w 2 (some ⟨B, 0, none⟩) 2 (Gs [x, y]) := by
  refine ⟨rfl, fun _ => ⟨_, rfl, h.lt, fun j u hu => ?_⟩⟩
  rw [Addr.add_mid, Nat.zero_add]
  exact h.cell hu
set_option maxRecDepth 100000 in
theorem blk_seg1 {w : World} {B : Nat} {t : TypeId} (x : Im.Seg) (h : Blk w B t [.int .i64 x.1, .string x.2]) : Sl w 2 (some ⟨B, 0, none⟩) 1 (Gs [x]) := by
  refine ⟨rfl, fun _ => ⟨_, rfl, h.lt, fun j u hu => ?_⟩⟩
  rw [Addr.add_mid, Nat.zero_add]
  exact h.cell hu
set_option maxRecDepth 100000 in
theorem example_val (w : World) : Calls Tryd.prog 22 #[] w fun e w' => ∃ g, e = .returned (.agg #[.int .i64 4, .int .i64 1, .slice (some ⟨g, 0, none⟩) 2 2, .slice none 0 0]) ∧ w.heap.size ≤ g ∧ Sl w' 2 (some ⟨g, 0, none⟩) 2 (Gs X0.L) ∧ Later w w' := by
  have bI := (Blk.new w 29 #[.int .i64 4, .int .i64 1, .slice (some ⟨w.heap.size + 1, 0, none⟩) 2 2, .slice none 0 0] [.int .i64 4, .int .i64 1, .slice (some ⟨w.heap.size + 1, 0, none⟩) 2 2, .slice none 0 0] rfl).alloc (.cells #[.int .i64 0, .string sAB, .int .i64 4, .string sC] 47)
  have bS := Blk.new' (w.alloc (.cells #[.int .i64 4, .int .i64 1, .slice (some ⟨w.heap.size + 1, 0, none⟩) 2 2, .slice none 0 0] 29)) (w.heap.size + 1) 47 #[.int .i64 0, .string sAB, .int .i64 4, .string sC] [.int .i64 0, .string sAB, .int .i64 4, .string sC] (by simp) rfl
  have l2 := (later1 w (.cells #[.int .i64 4, .int .i64 1, .slice (some ⟨w.heap.size + 1, 0, none⟩) 2 2, .slice none 0 0] 29)).alloc (by simp) (.cells #[.int .i64 0, .string sAB, .int .i64 4, .string sC] 47)
  go_enter Tryd.func22, Tryd.ntmps22
  go_wp2
  refine bodyPost_ret (v := .agg #[.int .i64 4, .int .i64 1, .slice (some ⟨w.heap.size + 1, 0, none⟩) 2 2, .slice none 0 0]) (results_blk Tryd.results22 _ _ w.heap.size 29 [.int .i64 4, .int .i64 1, .slice (some ⟨w.heap.size + 1, 0, none⟩) 2 2, .slice none 0 0] _ rfl bI Tryd.underlying29 rfl (img_sz _ _ _ _)) rfl ⟨_, rfl, by omega, blk_seg2 (0, sAB) (4, sC) bS, l2⟩
set_option maxRecDepth 100000 in
theorem x0_in : inSeg X0.L := by
  intro y hy
  have hy2 : y = (0, sAB) ∨ y = (4, sC) := by simpa [X0] using hy
  rcases hy2 with rfl | rfl <;> exact ⟨by decide, by decide⟩
set_option maxRecDepth 100000 in
/-- The example, another entry perhaps, in one page. -/
theorem x0_img {w : World} {g : Nat} (en : Int) (hen : -9223372036854775808 ≤ en ∧ en ≤ 9223372036854775807) (h : Sl w 2 (some ⟨g, 0, none⟩) 2 (Gs X0.L)) : Img w (.agg #[.int .i64 en, .int .i64 1, .slice (some ⟨g, 0, none⟩) 2 2, .slice none 0 0]) ⟨en, 1, X0.L, [], 0⟩ :=
  ⟨_, _, _, _, _, rfl, h, Sl.nil _ _ _, x0_in, by omega, (show 0 ≤ 1000000 by omega), hen, (show -9223372036854775808 ≤ (1 : Int) ∧ (1 : Int) ≤ 9223372036854775807 by omega), Nat.le_refl _, Nat.zero_le _⟩
set_option maxRecDepth 100000 in
theorem second_any (x : Int) (hx : -9223372036854775808 ≤ x ∧ x ≤ 9223372036854775807) (w : World) : Calls Tryd.prog 23 #[.int .i64 x] w fun e w' => ∃ v, e = .returned v ∧ Img w' v (X2 x) ∧ Later w w' := by
  have bI := (Blk.new w 29 #[.int .i64 4, .int .i64 1, .slice (some ⟨w.heap.size + 1, 0, none⟩) 2 2, .slice none 0 0] [.int .i64 4, .int .i64 1, .slice (some ⟨w.heap.size + 1, 0, none⟩) 2 2, .slice none 0 0] rfl).alloc (.cells #[.int .i64 0, .string sAB, .int .i64 x, .string sC] 47)
  have bS := Blk.new' (w.alloc (.cells #[.int .i64 4, .int .i64 1, .slice (some ⟨w.heap.size + 1, 0, none⟩) 2 2, .slice none 0 0] 29)) (w.heap.size + 1) 47 #[.int .i64 0, .string sAB, .int .i64 x, .string sC] [.int .i64 0, .string sAB, .int .i64 x, .string sC] (by simp) rfl
  have l2 := (later1 w (.cells #[.int .i64 4, .int .i64 1, .slice (some ⟨w.heap.size + 1, 0, none⟩) 2 2, .slice none 0 0] 29)).alloc (by simp) (.cells #[.int .i64 0, .string sAB, .int .i64 x, .string sC] 47)
  go_enter Tryd.func23, Tryd.ntmps23
  go_wp2
  refine bodyPost_ret (v := .agg #[.int .i64 4, .int .i64 1, .slice (some ⟨w.heap.size + 1, 0, none⟩) 2 2, .slice none 0 0]) (results_blk Tryd.results23 _ _ w.heap.size 29 [.int .i64 4, .int .i64 1, .slice (some ⟨w.heap.size + 1, 0, none⟩) 2 2, .slice none 0 0] _ rfl bI Tryd.underlying29 rfl (img_sz _ _ _ _)) rfl ⟨_, rfl, ⟨_, _, _, _, _, rfl, blk_seg2 (0, sAB) (x, sC) bS, Sl.nil _ _ _, ?_, by omega, by show 0 ≤ 1000000; omega, (show -9223372036854775808 ≤ (4 : Int) ∧ (4 : Int) ≤ 9223372036854775807 by omega), (show -9223372036854775808 ≤ (1 : Int) ∧ (1 : Int) ≤ 9223372036854775807 by omega), Nat.le_refl _, Nat.zero_le _⟩, l2⟩
  intro y hy
  have hy2 : y = (0, sAB) ∨ y = (x, sC) := by simpa [X2] using hy
  rcases hy2 with rfl | rfl
  · exact ⟨by decide, by decide⟩
  · exact ⟨hx.1, hx.2, by show sC.size ≤ 9223372036854775807; decide⟩
set_option maxRecDepth 100000 in
def digB (x : Dat) : Wm.Bs := (iv8 (Hs.sha (bv (inputB 90 [strOfNums x.enc])))).take 16
set_option maxRecDepth 100000 in
def digV (x : Dat) : Value := .agg (U (digB x)).toArray
set_option maxRecDepth 100000 in
theorem digB_len (x : Dat) : (digB x).length = 16 := by
  have h := shaC_len (inputB 90 [strOfNums x.enc])
  unfold shaC at h
  rw [U_length] at h
  unfold digB
  rw [List.length_take, h]; rfl
set_option maxRecDepth 100000 in
theorem dig_sz {F : Wm.Bs} (h : F.length = 16) : (Tryd.prog.info? 69).map (·.size) = some (U F).length := by rw [U_length, h]; kernel_rfl
set_option maxRecDepth 100000 in
theorem dig_z {F : Wm.Bs} (h : F.length = 16) : ([.int .u8 0, .int .u8 0, .int .u8 0, .int .u8 0, .int .u8 0, .int .u8 0, .int .u8 0, .int .u8 0, .int .u8 0, .int .u8 0, .int .u8 0, .int .u8 0, .int .u8 0, .int .u8 0, .int .u8 0, .int .u8 0] : List Value).length = (U F).length := by rw [U_length, h]; rfl
set_option maxRecDepth 100000 in
theorem U_take (b : Wm.Bs) (n : Nat) : (U b).take n = U (b.take n) := by unfold U; rw [List.map_take]
set_option maxRecDepth 100000 in
set_option maxHeartbeats 2000000 in
theorem digest_any (v : Value) (x : Dat) (w : World) (h : Img w v x) (tab : Tab w) (h4 : x.enc.length ≤ 400) : Calls Tryd.prog 26 #[v] w fun e w' => e = .returned (digV x) ∧ Later w w' := by
  obtain ⟨A, n, c, B, cd, rfl, h1, h2, h3, h5, h6, h7, h8, h9, h10⟩ := h
  have HE := Lib.hid fun w' (l : Later w w') => (encode_any x.en x.p A n c x.L B x.m cd x.d w' (h1.keep l) (h2.keep l) h3 h5 h6 h7 h8 (by show x.enc.length ≤ _; omega)).mono fun e w2 h => h.as
  have HO := Lib.hid fun w' (l : Later w w') (B : Nat) (t : TypeId) (hb : Blk w' B t [.string (strOfNums x.enc)]) => of_any 90 (some ⟨B, 0, none⟩) 1 1 [strOfNums x.enc] w' ⟨rfl, fun _ => ⟨_, rfl, hb.lt, fun j u hu => by rw [Addr.add_mid, Nat.zero_add]; exact hb.cell hu⟩⟩ (fun s hs => by rcases List.mem_singleton.1 hs with rfl; rw [Im.strN_size]; exact h4) (by omega) (tab.keep l)
  have hF : (shaC (inputB 90 [strOfNums x.enc])).take 16 = U (digB x) := U_take _ _
  have hL := digB_len x
  have hVV : digV x = .agg (U (digB x)).toArray := rfl
  rw [hF] at HO
  rw [hVV]
  obtain ⟨F, hFe⟩ : ∃ F, F = digB x := ⟨_, rfl⟩
  obtain ⟨E, hE⟩ : ∃ E, E = x.enc := ⟨_, rfl⟩
  have hE2 : encS x.en x.p x.L x.d x.m = E := hE.symm
  rw [hE2] at HE
  rw [← hFe] at HO hL ⊢
  rw [← hE] at HO
  have HL := Lib.hid hL
  clear hF hVV hE2 hE hFe hL
  have l0 := later1 w (.cells #[.int .i64 x.en, .int .i64 x.p, .slice A n c, .slice B x.m cd] 29)
  have b0 := Blk.new w 29 #[.int .i64 x.en, .int .i64 x.p, .slice A n c, .slice B x.m cd] [.int .i64 x.en, .int .i64 x.p, .slice A n c, .slice B x.m cd] rfl
  have bD := Blk.new' (w.alloc (.cells #[.int .i64 x.en, .int .i64 x.p, .slice A n c, .slice B x.m cd] 29)) (w.heap.size + 1) 69 #[.int .u8 0, .int .u8 0, .int .u8 0, .int .u8 0, .int .u8 0, .int .u8 0, .int .u8 0, .int .u8 0, .int .u8 0, .int .u8 0, .int .u8 0, .int .u8 0, .int .u8 0, .int .u8 0, .int .u8 0, .int .u8 0] [.int .u8 0, .int .u8 0, .int .u8 0, .int .u8 0, .int .u8 0, .int .u8 0, .int .u8 0, .int .u8 0, .int .u8 0, .int .u8 0, .int .u8 0, .int .u8 0, .int .u8 0, .int .u8 0, .int .u8 0, .int .u8 0] (by simp) rfl
  clear h1 h2 h3 h5 h6 h7 h8 h9 h10 tab h4
  go_enter Tryd.func26, Tryd.ntmps26
  go_wp2_with (first
    | (with_reducible refine wpList_load_blk (o := ⟨some 3, .load 29 (.tmp 1), _, _, _, none⟩) rfl _ _ rfl _ 29 _ _ (by rfl) (b0.alloc _) Tryd.underlying29 rfl (img_sz _ _ _ _) ?_)
    | (go_at_call 20; refine (HE.out _ (l0.alloc l0.size _)).mono ?_; rintro e w1 ⟨A1, c1, rfl, _, _, _, s1, l1⟩; have l2 := Later.trans_ (l0.alloc l0.size _) l1; have rs := run_str_ex s1 (later0 w1) c1; replace bD := bD.keep l1)
    | (go_at_call 52; refine (HO.out _ (l2.alloc l2.size _) _ _ (Blk.new _ _ _ _ rfl)).mono ?_; rintro e w3 ⟨rfl, l3⟩; replace bD := (bD.alloc _).keep l3; have l4 := Later.trans_ (l2.alloc l2.size _) l3)
    | ((with_reducible refine wpList_store_abs (o := ⟨none, .store 69 (.tmp 2) (.tmp 7), _, _, _, none⟩) rfl _ _ _ rfl (w.heap.size + 1) 69 _ (U F) ?_ ?_ bD (dig_sz HL.out) (dig_z HL.out) (U_one _) ?_); rfl; rfl; intro w5 z1 z2))
  exact bodyPost_ret (v := .agg (U F).toArray) (results_blk Tryd.results26 _ _ (w.heap.size + 1) 69 (U F) _ rfl z1 Tryd.underlying69 rfl (dig_sz HL.out)) rfl ⟨rfl, Below.only l4 z2 (by omega)⟩
end Go.Proofs.YtjfphjgmphlbhaaDoor

/-
  THE WALK OF the statements' sanity check: the document's examples.
-/
namespace Go.Proofs.YtjfphjgmphlbhaaDoor
open Go.RowKit Go.ChangeShapes Go.WideShapes Go.ChangeAt

set_option maxRecDepth 100000 in
def sABC : ByteArray := ⟨#[97, 98, 0, 0, 99]⟩
set_option maxRecDepth 100000 in
def s3 : ByteArray := ⟨#[1, 0, 2]⟩
set_option maxRecDepth 100000 in
def s03 : ByteArray := ⟨#[3]⟩
set_option maxRecDepth 100000 in
def M0 : Wm.Bs := Im.lay (Im.Zr (1 * 128)) X0.L
set_option maxRecDepth 100000 in
def M1 : Wm.Bs := Mm.wr (Zs 2) 1 (Wm.ofS s3)
set_option maxRecDepth 100000 in
def M2 : Wm.Bs := Mm.wr M1 128 (Wm.ofS s03)
set_option maxRecDepth 100000 in
def D1 : Dat := ⟨4, 1, [(0, sABC)], [], 0⟩
set_option maxRecDepth 100000 in
def D2 : Dat := ⟨4, 2, [(1, s3), (128, s03)], [], 0⟩
set_option maxRecDepth 100000 in
theorem bs_all {b : Wm.Bs} (h : (b.all fun x => decide (0 ≤ x ∧ x < 256)) = true) : Wm.isBs b := fun x hx => of_decide_eq_true (List.all_eq_true.1 h x hx)
set_option maxRecDepth 100000 in
theorem M0_bs : Wm.isBs M0 := bs_all (by decide +kernel)
set_option maxRecDepth 100000 in
theorem M2_bs : Wm.isBs M2 := bs_all (by decide +kernel)
set_option maxRecDepth 100000 in
theorem sg_1 : Im.sgs M0 1 = [(0, sABC)] := by decide +kernel
set_option maxRecDepth 100000 in
theorem sg_2 : Im.sgs M2 2 = [(1, s3), (128, s03)] := by decide +kernel
set_option maxRecDepth 100000 in
theorem dc_1 : (dcd X0.enc).2 = 0 := by decide +kernel
set_option maxRecDepth 100000 in
theorem dc_2 : (dcd X0.enc).1.enc = X0.enc := by decide +kernel
set_option maxRecDepth 100000 in
theorem en_1 : X0.enc.length ≤ 400 := by decide +kernel
set_option maxRecDepth 100000 in
theorem en_2 : (X2 2).enc.length ≤ 400 := by decide +kernel
set_option maxRecDepth 100000 in
theorem en_bs : Wm.isBs X0.enc := bs_all (by decide +kernel)
set_option maxRecDepth 100000 in
theorem en_d1 : D1.enc.length ≤ 400 := by decide +kernel
set_option maxRecDepth 100000 in
theorem en_d2 : D2.enc.length ≤ 400 := by decide +kernel
set_option maxRecDepth 100000 in
theorem dg_ne : digB X0 ≠ digB (X2 2) := by decide +kernel
set_option maxRecDepth 100000 in
theorem dig_eq {x y : Wm.Bs} (hx : x.length = 16) (hy : y.length = 16) (w : World) : (Op.equalIn 10000 69 (.agg (U x).toArray) (.agg (U y).toArray)).run Tryd.prog w = .ok (decide (x = y)) w := by
  obtain ⟨i0, hi, _, _, _⟩ := info_parts u8_info
  have hc : Tryd.prog.cellsOf 5 = 1 := by kernel_rfl
  rw [run_equalIn_array w 9999 _ _ Tryd.underlying69 hi, hc, items_eq 9998 x y w _ (fun i hi => by rw [hx, hy]; have := List.mem_range.1 hi; omega), range_eq hx hy]
abbrev xs (g : Nat) (en : Int) : Value := .agg #[.int .i64 en, .int .i64 1, .slice (some ⟨g, 0, none⟩) 2 2, .slice none 0 0]
set_option maxRecDepth 100000 in
theorem k_check (en r : Int) (hen : -9223372036854775808 ≤ en ∧ en ≤ 9223372036854775807) (hr : Im.chk en 1 X0.L 0 = r) (g : Nat) (w : World) (h : Sl w 2 (some ⟨g, 0, none⟩) 2 (Gs X0.L)) :
    Calls Tryd.prog 17 #[.agg #[.int .i64 en, .int .i64 1, .slice (some ⟨g, 0, none⟩) 2 2, .slice none 0 0]] w fun e w' => e = .returned (.int .i64 r) ∧ Later w w' := by
  have h2 := checkI w _ _ (x0_img en hen h)
  rwa [show Dat.chk ⟨en, 1, X0.L, [], 0⟩ = r from hr] at h2
set_option maxRecDepth 100000 in
theorem k_chk2 (x r : Int) (hr : Im.chk 4 1 (X2 x).L 0 = r) (v : Value) (w : World) (h : Img w v (X2 x)) :
    Calls Tryd.prog 17 #[v] w fun e w' => e = .returned (.int .i64 r) ∧ Later w w' := by
  have h2 := checkI w _ _ h
  rwa [show (X2 x).chk = r from hr] at h2
set_option maxRecDepth 100000 in
theorem k_load (g : Nat) (w : World) (h : Sl w 2 (some ⟨g, 0, none⟩) 2 (Gs X0.L)) :
    Calls Tryd.prog 16 #[.agg #[.int .i64 4, .int .i64 1, .slice (some ⟨g, 0, none⟩) 2 2, .slice none 0 0]] w (GotL 1 M0 w) :=
  load_ok 4 1 _ 2 2 X0.L none 0 0 w h x0_in (Nat.zero_le _) (by decide) (by decide +kernel)
set_option maxRecDepth 100000 in
theorem k_mload (a s v : Int) (ha : -9223372036854775808 ≤ a ∧ a ≤ 9223372036854775807) (e1 : Mm.ld M0 a s = v) (e2 : decide (Mm.There 128 a s) = true) (g c : Nat) (w : World) (hd : Draft w g 1 M0) :
    Calls Tryd.prog 19 #[.agg #[.slice (some ⟨g, 0, none⟩) 1 c], .int .i64 a, .int .i64 s] w fun e w' => e = .returned (.tuple #[.int .u32 v, .bool true]) ∧ Later w w' := by
  have h := load_any (some ⟨g, 0, none⟩) 1 c a s M0 w hd.sl M0_bs (by omega) (by omega) ha
  rw [e1, show 1 * 128 = 128 from rfl, e2] at h
  exact h
set_option maxRecDepth 100000 in
theorem k_cpus (g : Nat) (w : World) (h : Sl w 2 (some ⟨g, 0, none⟩) 2 (Gs X0.L)) :
    Calls Tryd.prog 21 #[.agg #[.int .i64 4, .int .i64 1, .slice (some ⟨g, 0, none⟩) 2 2, .slice none 0 0], .int .i64 2] w (GotCpus 4 2 w) :=
  cpus_ok 4 1 2 _ 2 2 X0.L none 0 0 w h x0_in (Nat.zero_le _) (by decide) (by omega) (by decide +kernel) (by omega) (by omega)
set_option maxRecDepth 100000 in
theorem k_of1 (g c : Nat) (w : World) (hd : Draft w g 1 M0) :
    Calls Tryd.prog 9 #[.agg #[.slice (some ⟨g, 0, none⟩) 1 c], .int .i64 4, .slice none 0 0] w fun e w' => ∃ v, e = .returned (.tuple #[v, .int .i64 0]) ∧ Img w' v D1 ∧ Later w w' := by
  have h := of_ok (some ⟨g, 0, none⟩) 1 c 4 none 0 0 M0 [] w hd.sl M0_bs (Sl.nil _ _ _) (by omega) (by decide) (by omega) (by omega)
  rw [sg_1] at h
  exact h
set_option maxRecDepth 100000 in
theorem k_of2 (g c : Nat) (w : World) (hd : Draft w g 2 M2) :
    Calls Tryd.prog 9 #[.agg #[.slice (some ⟨g, 0, none⟩) 2 c], .int .i64 4, .slice none 0 0] w fun e w' => ∃ v, e = .returned (.tuple #[v, .int .i64 0]) ∧ Img w' v D2 ∧ Later w w' := by
  have h := of_ok (some ⟨g, 0, none⟩) 2 c 4 none 0 0 M2 [] w hd.sl M2_bs (Sl.nil _ _ _) (by omega) (by decide) (by omega) (by omega)
  rw [sg_2] at h
  exact h
set_option maxRecDepth 100000 in
theorem k_enc (g : Nat) (w : World) (h : Sl w 2 (some ⟨g, 0, none⟩) 2 (Gs X0.L)) :
    Calls Tryd.prog 20 #[.agg #[.int .i64 4, .int .i64 1, .slice (some ⟨g, 0, none⟩) 2 2, .slice none 0 0]] w (MadeAs X0.enc w) :=
  (encode_any 4 1 _ 2 2 X0.L none 0 0 [] w h (Sl.nil _ _ _) x0_in (by omega) (by omega) (by omega) (by omega) (by have := en_1; show X0.enc.length ≤ _; omega)).mono fun e w2 h => h.as
set_option maxRecDepth 100000 in
theorem k_dec (A : Option Addr) (c : Nat) (w : World) (h : Sl w 1 A X0.enc.length (U X0.enc)) (h1 : X0.enc.length ≤ c) (h2 : c ≤ maxLen) :
    Calls Tryd.prog 10 #[.slice A X0.enc.length c] w fun e w' => ∃ v, e = .returned (.tuple #[v, .int .i64 0]) ∧ Img w' v (dcd X0.enc).1 ∧ Later w w' := by
  have h := decode_any A _ c X0.enc w h en_bs h1 h2 (by have := en_1; omega)
  rwa [dc_1] at h
set_option maxRecDepth 100000 in
theorem k_write1 (g c : Nat) (w : World) (hd : Draft w g 2 (Zs 2)) :
    Calls Tryd.prog 25 #[.agg #[.slice (some ⟨g, 0, none⟩) 2 c], .int .i64 1, .string ⟨#[1, 0, 2]⟩] w (GotMB 2 M1 true w) :=
  write_any (some ⟨g, 0, none⟩) 2 c 1 s3 (Zs 2) w hd.sl (by omega) (by omega) (by omega)
set_option maxRecDepth 100000 in
theorem k_write2 (g c : Nat) (w : World) (hd : Draft w g 2 M1) :
    Calls Tryd.prog 25 #[.agg #[.slice (some ⟨g, 0, none⟩) 2 c], .int .i64 128, .string ⟨#[3]⟩] w (GotMB 2 M2 true w) :=
  write_any (some ⟨g, 0, none⟩) 2 c 128 s03 M1 w hd.sl (by omega) (by omega) (by omega)
set_option maxRecDepth 100000 in
theorem d_img {w : World} {A : Option Addr} {n c : Nat} {p : Int} (L : List Im.Seg) (hp : -9223372036854775808 ≤ p ∧ p ≤ 9223372036854775807) (hL : inSeg L) (hn : n ≤ 1000000) (h : Sl w 2 A n (Gs L)) : Img w (.agg #[.int .i64 4, .int .i64 p, .slice A n c, .slice none 0 0]) ⟨4, p, L, [], 0⟩ :=
  ⟨_, _, _, _, _, rfl, h, Sl.nil _ _ _, hL, hn, (show 0 ≤ 1000000 by omega), (show -9223372036854775808 ≤ (4 : Int) ∧ (4 : Int) ≤ 9223372036854775807 by omega), hp, Nat.le_refl _, Nat.zero_le _⟩
set_option maxRecDepth 100000 in
theorem Img.parts {w : World} {v : Value} {x : Dat} (h : Img w v x) : ∃ A n c B cd, v = .agg #[.int .i64 x.en, .int .i64 x.p, .slice A n c, .slice B x.m cd] ∧ True := by
  obtain ⟨A, n, c, B, cd, e, _⟩ := h
  exact ⟨A, n, c, B, cd, e, trivial⟩
set_option maxRecDepth 100000 in
theorem in2 : inSeg [(1, s3), (128, s03)] := by
  intro y hy
  have hy2 : y = (1, s3) ∨ y = (128, s03) := by simpa using hy
  rcases hy2 with rfl | rfl <;> exact ⟨by decide, by decide⟩
set_option maxRecDepth 100000 in
theorem in1 : inSeg [(0, sABC)] := by
  intro y hy
  have hy2 : y = (0, sABC) := by simpa using hy
  rcases hy2 with rfl; exact ⟨by decide, by decide⟩
set_option maxRecDepth 100000 in
set_option maxHeartbeats 8000000 in
theorem sanity_any (w : World) (tab : Tab w) : Calls Tryd.prog 8 #[] w fun e w' => e = .returned (.bool true) ∧ Later w w' := by
  have HX := Lib.hid fun w' => example_val w'
  have HC4 := Lib.hid (k_check 4 0 (by omega) (by decide +kernel))
  have HC2 := Lib.hid (k_check 2 7 (by omega) (by decide +kernel))
  have HC128 := Lib.hid (k_check 128 7 (by omega) (by decide +kernel))
  have HQ1 := Lib.hid (second_any 1 (by omega))
  have HQ2 := Lib.hid (second_any 2 (by omega))
  have HQ3 := Lib.hid (second_any 128 (by omega))
  have HK1 := Lib.hid (k_chk2 1 3 (by decide +kernel))
  have HK2 := Lib.hid (k_chk2 2 0 (by decide +kernel))
  have HK3 := Lib.hid (k_chk2 128 3 (by decide +kernel))
  have HL := Lib.hid k_load
  have HM0 := Lib.hid (k_mload 0 4 25185 (by omega) (by decide +kernel) (by decide +kernel))
  have HM4 := Lib.hid (k_mload 4 4 99 (by omega) (by decide +kernel) (by decide +kernel))
  have HP := Lib.hid k_cpus
  have HO1 := Lib.hid k_of1
  have HO2 := Lib.hid k_of2
  have HE := Lib.hid k_enc
  have HD := Lib.hid k_dec
  have HN := Lib.hid fun w' => new_ok 2 w' (by omega)
  rw [show ((2 : Nat) : Int) = 2 from rfl] at HN
  have HW1 := Lib.hid k_write1
  have HW2 := Lib.hid k_write2
  have HS1 := Lib.hid fun v1 v2 w' h1 h2 => same_any v1 v2 D1 D1 w' h1 h2 rfl (by have := en_d1; omega)
  have HS2 := Lib.hid fun v1 v2 w' h1 h2 => same_any v1 v2 D2 D2 w' h1 h2 rfl (by have := en_d2; omega)
  have HSY := Lib.hid fun v1 g w' h1 (h2 : Sl w' 2 (some ⟨g, 0, none⟩) 2 (Gs X0.L)) => same_any v1 _ (dcd X0.enc).1 X0 w' h1 (x0_img 4 (by omega) h2) dc_2 (by have := en_1; rw [dc_2]; omega)
  have HG1 := Lib.hid fun g w' (h2 : Sl w' 2 (some ⟨g, 0, none⟩) 2 (Gs X0.L)) (t : Tab w') => digest_any _ X0 w' (x0_img 4 (by omega) h2) t en_1
  have HG2 := Lib.hid fun v w' (h2 : Img w' v (X2 2)) (t : Tab w') => digest_any v (X2 2) w' h2 t en_2
  have heq : ∀ w' : World, (Op.equalIn 10000 69 (.agg (U (digB X0)).toArray) (.agg (U (digB (X2 2))).toArray)).run Tryd.prog w' = .ok false w' := fun w' => by rw [dig_eq (digB_len _) (digB_len _) w', decide_eq_false dg_ne]
  unfold digV at HG1 HG2
  obtain ⟨F1, hF1⟩ : ∃ F, F = digB X0 := ⟨_, rfl⟩
  obtain ⟨F2, hF2⟩ : ∃ F, F = digB (X2 2) := ⟨_, rfl⟩
  rw [← hF1] at HG1 heq
  rw [← hF2] at HG2 heq
  clear hF1 hF2
  obtain ⟨Y, hY⟩ : ∃ Y, Y = (dcd X0.enc).1 := ⟨_, rfl⟩
  rw [← hY] at HD HSY
  clear hY
  obtain ⟨E, hE⟩ : ∃ E, E = X0.enc := ⟨_, rfl⟩
  rw [← hE] at HE HD
  clear hE
  go_enter Tryd.func8, Tryd.ntmps8
  go_wp2_with (first
    | (go_at_call 23; have _h := i26; (with_reducible refine (HQ2.out _).mono ?_); rintro e w27 ⟨v27, rfl, i27, l27⟩; replace tab := tab.keep l27; replace lw := Later.trans_ lw l27)
    | (go_at_call 26; (with_reducible refine (HG2.out _ _ i27 tab).mono ?_); rintro e w28 ⟨rfl, l28⟩; replace lw := Later.trans_ lw l28)
    | (go_at_call 22; refine (HX.out _).mono ?_; rintro e w1 ⟨g, rfl, hg, s1, l1⟩; have bx := ((Blk.new w1 29 #[.int .i64 4, .int .i64 1, .slice (some ⟨g, 0, none⟩) 2 2, .slice none 0 0] [.int .i64 4, .int .i64 1, .slice (some ⟨g, 0, none⟩) 2 2, .slice none 0 0] rfl).alloc (.cells #[.int .i64 2, .int .i64 1, .slice (some ⟨g, 0, none⟩) 2 2, .slice none 0 0] 29)).alloc (.cells #[.int .i64 128, .int .i64 1, .slice (some ⟨g, 0, none⟩) 2 2, .slice none 0 0] 29); have bo := (Blk.new' (w1.alloc (.cells #[.int .i64 4, .int .i64 1, .slice (some ⟨g, 0, none⟩) 2 2, .slice none 0 0] 29)) (w1.heap.size + 1) 29 #[.int .i64 2, .int .i64 1, .slice (some ⟨g, 0, none⟩) 2 2, .slice none 0 0] [.int .i64 2, .int .i64 1, .slice (some ⟨g, 0, none⟩) 2 2, .slice none 0 0] (by simp) rfl).alloc (.cells #[.int .i64 128, .int .i64 1, .slice (some ⟨g, 0, none⟩) 2 2, .slice none 0 0] 29); have bf := Blk.new' ((w1.alloc (.cells #[.int .i64 4, .int .i64 1, .slice (some ⟨g, 0, none⟩) 2 2, .slice none 0 0] 29)).alloc (.cells #[.int .i64 2, .int .i64 1, .slice (some ⟨g, 0, none⟩) 2 2, .slice none 0 0] 29)) (w1.heap.size + 1 + 1) 29 #[.int .i64 128, .int .i64 1, .slice (some ⟨g, 0, none⟩) 2 2, .slice none 0 0] [.int .i64 128, .int .i64 1, .slice (some ⟨g, 0, none⟩) 2 2, .slice none 0 0] (by simp) rfl; replace s1 := ((s1.alloc (.cells #[.int .i64 4, .int .i64 1, .slice (some ⟨g, 0, none⟩) 2 2, .slice none 0 0] 29)).alloc (.cells #[.int .i64 2, .int .i64 1, .slice (some ⟨g, 0, none⟩) 2 2, .slice none 0 0] 29)).alloc (.cells #[.int .i64 128, .int .i64 1, .slice (some ⟨g, 0, none⟩) 2 2, .slice none 0 0] 29); have lw := ((l1.alloc l1.size (.cells #[.int .i64 4, .int .i64 1, .slice (some ⟨g, 0, none⟩) 2 2, .slice none 0 0] 29)).alloc (l1.alloc l1.size _).size (.cells #[.int .i64 2, .int .i64 1, .slice (some ⟨g, 0, none⟩) 2 2, .slice none 0 0] 29)).alloc ((l1.alloc l1.size _).alloc (l1.alloc l1.size _).size _).size (.cells #[.int .i64 128, .int .i64 1, .slice (some ⟨g, 0, none⟩) 2 2, .slice none 0 0] 29); replace tab := tab.keep lw)
    | (go_at_call 17; (with_reducible refine (HC4.out _ _ s1).mono ?_); rintro e w2 ⟨rfl, l2⟩; replace s1 := s1.keep l2; replace bx := bx.keep l2; replace bo := bo.keep l2; replace bf := bf.keep l2; replace tab := tab.keep l2; replace lw := Later.trans_ lw l2; have co0 := bo.cell (j := 0) (v := .int .i64 2) rfl; have co1 := bo.cell (j := 1) (v := .int .i64 1) rfl; have co2 := bo.cell (j := 2) (v := .slice (some ⟨g, 0, none⟩) 2 2) rfl; have co3 := bo.cell (j := 3) (v := .slice none 0 0) rfl)
    | (go_at_call 17; (with_reducible refine (HC2.out _ _ s1).mono ?_); rintro e w3 ⟨rfl, l3⟩; clear co0 co1 co2 co3; clear bo; replace s1 := s1.keep l3; replace bx := bx.keep l3; replace bf := bf.keep l3; replace tab := tab.keep l3; replace lw := Later.trans_ lw l3; have cf0 := bf.cell (j := 0) (v := .int .i64 128) rfl; have cf1 := bf.cell (j := 1) (v := .int .i64 1) rfl; have cf2 := bf.cell (j := 2) (v := .slice (some ⟨g, 0, none⟩) 2 2) rfl; have cf3 := bf.cell (j := 3) (v := .slice none 0 0) rfl)
    | (go_at_call 17; (with_reducible refine (HC128.out _ _ s1).mono ?_); rintro e w4 ⟨rfl, l4⟩; clear cf0 cf1 cf2 cf3; clear bf; replace s1 := s1.keep l4; replace bx := bx.keep l4; replace tab := tab.keep l4; replace lw := Later.trans_ lw l4)
    | (go_at_call 23; (with_reducible refine (HQ1.out _).mono ?_); rintro e w5 ⟨v5, rfl, i5, l5⟩; replace s1 := s1.keep l5; replace bx := bx.keep l5; replace tab := tab.keep l5; replace lw := Later.trans_ lw l5)
    | (go_at_call 17; (with_reducible refine (HK1.out _ _ i5).mono ?_); rintro e w6 ⟨rfl, l6⟩; clear i5; replace s1 := s1.keep l6; replace bx := bx.keep l6; replace tab := tab.keep l6; replace lw := Later.trans_ lw l6)
    | (go_at_call 23; (with_reducible refine (HQ2.out _).mono ?_); rintro e w7 ⟨v7, rfl, i7, l7⟩; replace s1 := s1.keep l7; replace bx := bx.keep l7; replace tab := tab.keep l7; replace lw := Later.trans_ lw l7)
    | (go_at_call 17; (with_reducible refine (HK2.out _ _ i7).mono ?_); rintro e w8 ⟨rfl, l8⟩; clear i7; replace s1 := s1.keep l8; replace bx := bx.keep l8; replace tab := tab.keep l8; replace lw := Later.trans_ lw l8)
    | (go_at_call 23; (with_reducible refine (HQ3.out _).mono ?_); rintro e w9 ⟨v9, rfl, i9, l9⟩; replace s1 := s1.keep l9; replace bx := bx.keep l9; replace tab := tab.keep l9; replace lw := Later.trans_ lw l9)
    | (go_at_call 17; (with_reducible refine (HK3.out _ _ i9).mono ?_); rintro e w10 ⟨rfl, l10⟩; clear i9; replace s1 := s1.keep l10; replace bx := bx.keep l10; replace tab := tab.keep l10; replace lw := Later.trans_ lw l10; have cx0 := bx.cell (j := 0) (v := .int .i64 4) rfl; have cx1 := bx.cell (j := 1) (v := .int .i64 1) rfl; have cx2 := bx.cell (j := 2) (v := .slice (some ⟨g, 0, none⟩) 2 2) rfl; have cx3 := bx.cell (j := 3) (v := .slice none 0 0) rfl)
    | (go_at_call 16; (with_reducible refine (HL.out _ _ s1).mono ?_); rintro e w11 ⟨gm, cm, rfl, _, _, _, dm, l11⟩; clear cx0 cx1 cx2 cx3; replace s1 := s1.keep l11; replace bx := bx.keep l11; replace tab := tab.keep l11; replace lw := Later.trans_ lw l11; have a11 := later1 w11 (.cells #[.slice (some ⟨gm, 0, none⟩) 1 cm] 24); have bm := Blk.new w11 24 #[.slice (some ⟨gm, 0, none⟩) 1 cm] [.slice (some ⟨gm, 0, none⟩) 1 cm] rfl; replace s1 := s1.keep a11; replace bx := bx.keep a11; replace tab := tab.keep a11; replace lw := Later.trans_ lw a11; replace dm := dm.keep a11; have cm0 := bm.cell (j := 0) (v := .slice (some ⟨gm, 0, none⟩) 1 cm) rfl)
    | (go_at_call 19; (with_reducible refine (HM0.out _ _ _ dm).mono ?_); rintro e w12 ⟨rfl, l12⟩; clear cm0; replace s1 := s1.keep l12; replace bx := bx.keep l12; replace tab := tab.keep l12; replace lw := Later.trans_ lw l12; replace dm := dm.keep l12; replace bm := bm.keep l12; have cm0 := bm.cell (j := 0) (v := .slice (some ⟨gm, 0, none⟩) 1 cm) rfl)
    | (go_at_call 19; (with_reducible refine (HM4.out _ _ _ dm).mono ?_); rintro e w13 ⟨rfl, l13⟩; clear cm0; replace s1 := s1.keep l13; replace bx := bx.keep l13; replace tab := tab.keep l13; replace lw := Later.trans_ lw l13; replace dm := dm.keep l13; replace bm := bm.keep l13; have cx0 := bx.cell (j := 0) (v := .int .i64 4) rfl; have cx1 := bx.cell (j := 1) (v := .int .i64 1) rfl; have cx2 := bx.cell (j := 2) (v := .slice (some ⟨g, 0, none⟩) 2 2) rfl; have cx3 := bx.cell (j := 3) (v := .slice none 0 0) rfl)
    | (go_at_call 21; (with_reducible refine (HP.out _ _ s1).mono ?_); rintro e w14 ⟨gp, rfl, _, bp, l14⟩; clear cx0 cx1 cx2 cx3; replace s1 := s1.keep l14; replace bx := bx.keep l14; replace tab := tab.keep l14; replace lw := Later.trans_ lw l14; replace dm := dm.keep l14; replace bm := bm.keep l14; have cm0 := bm.cell (j := 0) (v := .slice (some ⟨gm, 0, none⟩) 1 cm) rfl)
    | (go_at_call 9; (with_reducible refine (HO1.out _ _ _ dm).mono ?_); rintro e w15 ⟨v15, rfl, i15, l15⟩; clear cm0; clear bm dm; obtain ⟨A15, n15, c15, B15, d15, e15, _⟩ := Img.parts i15; obtain rfl : v15 = .agg #[.int .i64 4, .int .i64 1, .slice A15 n15 c15, .slice B15 0 d15] := e15; replace s1 := s1.keep l15; replace bx := bx.keep l15; replace tab := tab.keep l15; replace lw := Later.trans_ lw l15; replace bp := bp.keep l15; have a15 := later1 w15 (.cells #[.int .i64 4, .int .i64 1, .slice A15 n15 c15, .slice B15 0 d15] 29); have bl := Blk.new w15 29 #[.int .i64 4, .int .i64 1, .slice A15 n15 c15, .slice B15 0 d15] [.int .i64 4, .int .i64 1, .slice A15 n15 c15, .slice B15 0 d15] rfl; replace s1 := s1.keep a15; replace bx := bx.keep a15; replace tab := tab.keep a15; replace lw := Later.trans_ lw a15; replace bp := bp.keep a15; replace i15 := i15.keep a15; have cx0 := bx.cell (j := 0) (v := .int .i64 4) rfl; have cx1 := bx.cell (j := 1) (v := .int .i64 1) rfl; have cx2 := bx.cell (j := 2) (v := .slice (some ⟨g, 0, none⟩) 2 2) rfl; have cx3 := bx.cell (j := 3) (v := .slice none 0 0) rfl)
    | (go_at_call 20; (with_reducible refine (HE.out _ _ s1).mono ?_); rintro e w16 ⟨AE, cE, rfl, hE1, hE2, _, sE, l16⟩; clear cx0 cx1 cx2 cx3; replace s1 := s1.keep l16; replace bx := bx.keep l16; replace tab := tab.keep l16; replace lw := Later.trans_ lw l16; replace bp := bp.keep l16; replace i15 := i15.keep l16; replace bl := bl.keep l16)
    | (go_at_call 10; (with_reducible refine (HD.out _ _ _ sE hE1 hE2).mono ?_); rintro e w17 ⟨v17, rfl, i17, l17⟩; clear sE; obtain ⟨A17, n17, c17, B17, d17, rfl, _⟩ := Img.parts i17; replace s1 := s1.keep l17; replace bx := bx.keep l17; replace tab := tab.keep l17; replace lw := Later.trans_ lw l17; replace bp := bp.keep l17; replace i15 := i15.keep l17; replace bl := bl.keep l17; have a17 := later1 w17 (.cells #[.int .i64 Y.en, .int .i64 Y.p, .slice A17 n17 c17, .slice B17 Y.m d17] 29); have bg := Blk.new w17 29 #[.int .i64 Y.en, .int .i64 Y.p, .slice A17 n17 c17, .slice B17 Y.m d17] [.int .i64 Y.en, .int .i64 Y.p, .slice A17 n17 c17, .slice B17 Y.m d17] rfl; replace s1 := s1.keep a17; replace bx := bx.keep a17; replace tab := tab.keep a17; replace lw := Later.trans_ lw a17; replace bp := bp.keep a17; replace i15 := i15.keep a17; replace bl := bl.keep a17; replace i17 := i17.keep a17; have cp0 := bp.cell (j := 0) (v := .int .u32 4) rfl; have cp30 := bp.cell (j := 30) (v := .int .u32 4) rfl; have cp27 := bp.cell (j := 27) (v := .bool false) rfl; have cp57 := bp.cell (j := 57) (v := .bool true) rfl; have cp25 := bp.cell (j := 25) (v := .int .u32 0) rfl; have cp55 := bp.cell (j := 55) (v := .int .u32 1) rfl)
    | (go_at_call 24; (with_reducible refine (HN.out _).mono ?_); rintro e w19 ⟨gq, rfl, _, dq, l19⟩; clear cp0 cp30 cp27 cp57 cp25 cp55 bp; replace s1 := s1.keep l19; replace bx := bx.keep l19; replace tab := tab.keep l19; replace lw := Later.trans_ lw l19; replace i15 := i15.keep l19; replace bl := bl.keep l19; replace i17 := i17.keep l19; replace bg := bg.keep l19; have a19 := later1 w19 (.cells #[.slice (some ⟨gq, 0, none⟩) 2 2] 24); have bq := Blk.new w19 24 #[.slice (some ⟨gq, 0, none⟩) 2 2] [.slice (some ⟨gq, 0, none⟩) 2 2] rfl; replace s1 := s1.keep a19; replace bx := bx.keep a19; replace tab := tab.keep a19; replace lw := Later.trans_ lw a19; replace i15 := i15.keep a19; replace bl := bl.keep a19; replace i17 := i17.keep a19; replace bg := bg.keep a19; replace dq := dq.keep a19; have cq0 := bq.cell (j := 0) (v := .slice (some ⟨gq, 0, none⟩) 2 2) rfl)
    | (go_at_call 25; (with_reducible refine (HW1.out _ _ _ dq).mono ?_); rintro e w20 ⟨gr, cr, rfl, _, _, _, dr, l20⟩; clear cq0; clear bq dq; replace s1 := s1.keep l20; replace bx := bx.keep l20; replace tab := tab.keep l20; replace lw := Later.trans_ lw l20; replace i15 := i15.keep l20; replace bl := bl.keep l20; replace i17 := i17.keep l20; replace bg := bg.keep l20; have a20 := later1 w20 (.cells #[.slice (some ⟨gr, 0, none⟩) 2 cr] 24); have br := Blk.new w20 24 #[.slice (some ⟨gr, 0, none⟩) 2 cr] [.slice (some ⟨gr, 0, none⟩) 2 cr] rfl; replace dr := dr.keep a20; have cr0 := br.cell (j := 0) (v := .slice (some ⟨gr, 0, none⟩) 2 cr) rfl)
    | (go_at_call 25; (with_reducible refine (HW2.out _ _ _ dr).mono ?_); rintro e w21 ⟨gs, cs, rfl, hgs, _, _, ds, l21⟩; clear cr0; clear dr; have hgs2 : w20.heap.size + 1 ≤ gs := (by simpa using hgs); have a21 : Later w20 (w21.setCell ⟨w20.heap.size, 0, none⟩ (.slice (some ⟨gs, 0, none⟩) 2 cs)) := Below.trans (Later.trans_ a20 l21) (Below.setCell (Below.refl _ _) (p := ⟨w20.heap.size, 0, none⟩) (show w20.heap.size ≤ w20.heap.size by omega) _); replace s1 := s1.keep a21; replace bx := bx.keep a21; replace tab := tab.keep a21; replace lw := Later.trans_ lw a21; replace i15 := i15.keep a21; replace bl := bl.keep a21; replace i17 := i17.keep a21; replace bg := bg.keep a21; have cr9 := (br.keep l21).cell (j := 0) (v := .slice (some ⟨gr, 0, none⟩) 2 cr) rfl; have fr9 := (br.keep l21).frz 0; replace br := (br.keep l21).set 0 (.slice (some ⟨gs, 0, none⟩) 2 cs); replace ds := ds.only (Only.set w21 w20.heap.size 0 (.slice (some ⟨gs, 0, none⟩) 2 cs)) (by omega); have cr0 := br.cell (j := 0) (v := .slice (some ⟨gs, 0, none⟩) 2 cs) rfl)
    | (go_at_call 9; (with_reducible refine (HO2.out _ _ _ ds).mono ?_); rintro e w22 ⟨v22, rfl, i22, l22⟩; clear cr0 cr9 fr9 br ds; obtain ⟨A22, n22, c22, B22, d22, e22, _⟩ := Img.parts i22; obtain rfl : v22 = .agg #[.int .i64 4, .int .i64 2, .slice A22 n22 c22, .slice B22 0 d22] := e22; replace s1 := s1.keep l22; replace bx := bx.keep l22; replace tab := tab.keep l22; replace lw := Later.trans_ lw l22; replace i15 := i15.keep l22; replace bl := bl.keep l22; replace i17 := i17.keep l22; replace bg := bg.keep l22; have a22 := later1 w22 (.cells #[.int .i64 4, .int .i64 2, .slice A22 n22 c22, .slice B22 0 d22] 29); have bp2 := Blk.new w22 29 #[.int .i64 4, .int .i64 2, .slice A22 n22 c22, .slice B22 0 d22] [.int .i64 4, .int .i64 2, .slice A22 n22 c22, .slice B22 0 d22] rfl; replace s1 := s1.keep a22; replace bx := bx.keep a22; replace tab := tab.keep a22; replace lw := Later.trans_ lw a22; replace i15 := i15.keep a22; replace bl := bl.keep a22; replace i17 := i17.keep a22; replace bg := bg.keep a22; replace i22 := i22.keep a22; have a23 := later1 (w22.alloc (.cells #[.int .i64 4, .int .i64 2, .slice A22 n22 c22, .slice B22 0 d22] 29)) (.cells #[.int .i64 1, .string ⟨#[1, 0, 2]⟩, .int .i64 128, .string ⟨#[3]⟩] 47); have br2 := Blk.new' (w22.alloc (.cells #[.int .i64 4, .int .i64 2, .slice A22 n22 c22, .slice B22 0 d22] 29)) (w22.heap.size + 1) 47 #[.int .i64 1, .string ⟨#[1, 0, 2]⟩, .int .i64 128, .string ⟨#[3]⟩] [.int .i64 1, .string ⟨#[1, 0, 2]⟩, .int .i64 128, .string ⟨#[3]⟩] (by simp) rfl; replace s1 := s1.keep a23; replace bx := bx.keep a23; replace tab := tab.keep a23; replace lw := Later.trans_ lw a23; replace i15 := i15.keep a23; replace bl := bl.keep a23; replace i17 := i17.keep a23; replace bg := bg.keep a23; replace i22 := i22.keep a23; replace bp2 := bp2.keep a23; have a24 := later1 ((w22.alloc (.cells #[.int .i64 4, .int .i64 2, .slice A22 n22 c22, .slice B22 0 d22] 29)).alloc (.cells #[.int .i64 1, .string ⟨#[1, 0, 2]⟩, .int .i64 128, .string ⟨#[3]⟩] 47)) (.cells #[.int .i64 4, .int .i64 2, .slice (some ⟨w22.heap.size + 1, 0, none⟩) 2 2, .slice none 0 0] 29); have bw := Blk.new' ((w22.alloc (.cells #[.int .i64 4, .int .i64 2, .slice A22 n22 c22, .slice B22 0 d22] 29)).alloc (.cells #[.int .i64 1, .string ⟨#[1, 0, 2]⟩, .int .i64 128, .string ⟨#[3]⟩] 47)) (w22.heap.size + 1 + 1) 29 #[.int .i64 4, .int .i64 2, .slice (some ⟨w22.heap.size + 1, 0, none⟩) 2 2, .slice none 0 0] [.int .i64 4, .int .i64 2, .slice (some ⟨w22.heap.size + 1, 0, none⟩) 2 2, .slice none 0 0] (by simp) rfl; replace s1 := s1.keep a24; replace bx := bx.keep a24; replace tab := tab.keep a24; replace lw := Later.trans_ lw a24; replace i15 := i15.keep a24; replace bl := bl.keep a24; replace i17 := i17.keep a24; replace bg := bg.keep a24; replace i22 := i22.keep a24; replace bp2 := bp2.keep a24; replace br2 := br2.keep a24; have i24 := d_img (c := 2) (p := 2) [(1, s3), (128, s03)] (by omega) (in2) (by omega) (blk_seg2 (1, s3) (128, s03) br2); have ce0 := bp2.cell (j := 0) (v := .int .i64 4) rfl; have ce1 := bp2.cell (j := 1) (v := .int .i64 2) rfl; have ce2 := bp2.cell (j := 2) (v := .slice A22 n22 c22) rfl; have ce3 := bp2.cell (j := 3) (v := .slice B22 0 d22) rfl; have cw0 := bw.cell (j := 0) (v := .int .i64 4) rfl; have cw1 := bw.cell (j := 1) (v := .int .i64 2) rfl; have cw2 := bw.cell (j := 2) (v := .slice (some ⟨w22.heap.size + 1, 0, none⟩) 2 2) rfl; have cw3 := bw.cell (j := 3) (v := .slice none 0 0) rfl)
    | (go_at_call 13; (with_reducible refine (HS2.out _ _ _ i22 i24).mono ?_); rintro e w23 ⟨rfl, l23⟩; clear ce0 ce1 ce2 ce3; clear cw0 cw1 cw2 cw3; clear i22 i24 bp2 bw br2; replace s1 := s1.keep l23; replace bx := bx.keep l23; replace tab := tab.keep l23; replace lw := Later.trans_ lw l23; replace i15 := i15.keep l23; replace bl := bl.keep l23; replace i17 := i17.keep l23; replace bg := bg.keep l23; have a25 := later1 w23 (.cells #[.int .i64 0, .string ⟨#[97, 98, 0, 0, 99]⟩] 47); have br1 := Blk.new w23 47 #[.int .i64 0, .string ⟨#[97, 98, 0, 0, 99]⟩] [.int .i64 0, .string ⟨#[97, 98, 0, 0, 99]⟩] rfl; replace s1 := s1.keep a25; replace bx := bx.keep a25; replace tab := tab.keep a25; replace lw := Later.trans_ lw a25; replace i15 := i15.keep a25; replace bl := bl.keep a25; replace i17 := i17.keep a25; replace bg := bg.keep a25; have a26 := later1 (w23.alloc (.cells #[.int .i64 0, .string ⟨#[97, 98, 0, 0, 99]⟩] 47)) (.cells #[.int .i64 4, .int .i64 1, .slice (some ⟨w23.heap.size, 0, none⟩) 1 1, .slice none 0 0] 29); have bwh := Blk.new' (w23.alloc (.cells #[.int .i64 0, .string ⟨#[97, 98, 0, 0, 99]⟩] 47)) (w23.heap.size + 1) 29 #[.int .i64 4, .int .i64 1, .slice (some ⟨w23.heap.size, 0, none⟩) 1 1, .slice none 0 0] [.int .i64 4, .int .i64 1, .slice (some ⟨w23.heap.size, 0, none⟩) 1 1, .slice none 0 0] (by simp) rfl; replace s1 := s1.keep a26; replace bx := bx.keep a26; replace tab := tab.keep a26; replace lw := Later.trans_ lw a26; replace i15 := i15.keep a26; replace bl := bl.keep a26; replace i17 := i17.keep a26; replace bg := bg.keep a26; replace br1 := br1.keep a26; have i26 := d_img (c := 1) (p := 1) [(0, sABC)] (by omega) (in1) (by omega) (blk_seg1 (0, sABC) br1); have cl0 := bl.cell (j := 0) (v := .int .i64 4) rfl; have cl1 := bl.cell (j := 1) (v := .int .i64 1) rfl; have cl2 := bl.cell (j := 2) (v := .slice A15 n15 c15) rfl; have cl3 := bl.cell (j := 3) (v := .slice B15 0 d15) rfl; have ch0 := bwh.cell (j := 0) (v := .int .i64 4) rfl; have ch1 := bwh.cell (j := 1) (v := .int .i64 1) rfl; have ch2 := bwh.cell (j := 2) (v := .slice (some ⟨w23.heap.size, 0, none⟩) 1 1) rfl; have ch3 := bwh.cell (j := 3) (v := .slice none 0 0) rfl)
    | (go_at_call 13; (with_reducible refine (HS1.out _ _ _ i15 i26).mono ?_); rintro e w24 ⟨rfl, l24⟩; clear cl0 cl1 cl2 cl3; clear ch0 ch1 ch2 ch3; clear i15 bl bwh br1; replace s1 := s1.keep l24; replace bx := bx.keep l24; replace tab := tab.keep l24; replace lw := Later.trans_ lw l24; replace i17 := i17.keep l24; replace bg := bg.keep l24; replace i26 := i26.keep l24; have cg0 := bg.cell (j := 0) (v := .int .i64 Y.en) rfl; have cg1 := bg.cell (j := 1) (v := .int .i64 Y.p) rfl; have cg2 := bg.cell (j := 2) (v := .slice A17 n17 c17) rfl; have cg3 := bg.cell (j := 3) (v := .slice B17 Y.m d17) rfl; have cx0 := bx.cell (j := 0) (v := .int .i64 4) rfl; have cx1 := bx.cell (j := 1) (v := .int .i64 1) rfl; have cx2 := bx.cell (j := 2) (v := .slice (some ⟨g, 0, none⟩) 2 2) rfl; have cx3 := bx.cell (j := 3) (v := .slice none 0 0) rfl)
    | (go_at_call 13; (with_reducible refine (HSY.out _ _ _ i17 s1).mono ?_); rintro e w25 ⟨rfl, l25⟩; clear cg0 cg1 cg2 cg3; clear cx0 cx1 cx2 cx3; clear i17 bg; replace s1 := s1.keep l25; replace bx := bx.keep l25; replace tab := tab.keep l25; replace lw := Later.trans_ lw l25; replace i26 := i26.keep l25; have cx0 := bx.cell (j := 0) (v := .int .i64 4) rfl; have cx1 := bx.cell (j := 1) (v := .int .i64 1) rfl; have cx2 := bx.cell (j := 2) (v := .slice (some ⟨g, 0, none⟩) 2 2) rfl; have cx3 := bx.cell (j := 3) (v := .slice none 0 0) rfl)
    | (go_at_call 26; (with_reducible refine (HG1.out _ _ s1 tab).mono ?_); rintro e w26 ⟨rfl, l26⟩; clear cx0 cx1 cx2 cx3; replace tab := tab.keep l26; replace lw := Later.trans_ lw l26))
  go_ret
  exact ⟨rfl, lw⟩
end Go.Proofs.YtjfphjgmphlbhaaDoor
