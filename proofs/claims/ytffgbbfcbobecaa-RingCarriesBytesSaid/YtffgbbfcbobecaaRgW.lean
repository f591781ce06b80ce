/-
  A RING: the examples of the chapter: sanity.
-/
import Derived.Test.YtffgbbfcbobecaaRgV
import Derived.Deep.DeepCutAuto
namespace Go.Proofs.Ytffgbbfcbobecaa
open Go.RowKit Go.ChangeShapes Go.WideShapes Go.ChangeAt

theorem wp_bs {P : Program} {o : Oper} {a : Act} {w w' : World} {K : Act → World → Prop} {Q : Exit → Act → World → Prop} (t : TypeId) (n : Nat) (fs : Array (Nat × Operand)) (vs : Array (Nat × Value)) (V : Value) (ho : o.op = .buildSlice t n fs)
    (hv : fs.toList.map (fun x => (x.1, a.eval x.2)) = vs.toList) (hr : (Instr.buildSlice t n vs).run P w = .ok V w')
    (h : K (a.put o.dst V) w') : o.wp P a w K Q := by
  have e : fs.map (fun x => (x.1, a.eval x.2)) = vs := by
    apply Array.toList_inj.1; rw [Array.toList_map]; exact hv
  unfold Oper.wp execOp
  simp only [ho, e, Sem.run_bind, hr, Sem.run_pure, Result.andThen_ok]
  exact h
theorem wpList_bs {P : Program} {ops : Array Oper} {rest : List Oper} {o : Oper} {a : Act} {w w' : World} {Q : Exit → Act → World → Prop} (hgd : o.guard = none) (t : TypeId) (n : Nat) (fs : Array (Nat × Operand)) (vs : Array (Nat × Value)) (V : Value) (ho : o.op = .buildSlice t n fs)
    (hv : fs.toList.map (fun x => (x.1, a.eval x.2)) = vs.toList) (hr : (Instr.buildSlice t n vs).run P w = .ok V w')
    (h : wpList P ops Q rest (a.put o.dst V) w') : wpList P ops Q (o :: rest) a w :=
  wpList_plain hgd fun _ hK => wp_bs t n fs vs V ho hv hr (hK _ _ h)
def m0 : Wm.Bs := Zs 8
def m1 : Wm.Bs := dsF m0 256 1 [512, 3, 514, 1] 4
def m2 : Wm.Bs := dsF m1 256 2 [600, 5, 1, 1] 4
def mN : Wm.Bs := Rg.takM 1024 m2 256 4 1
def abc : ByteArray := ⟨#[97, 98, 99, 100, 101, 102, 103]⟩
def l1 : List Rg.Pt := [(1, 512, 3, false), (2, 600, 5, true)]
def mP : Wm.Bs := (scF mN (Wm.ofS abc) l1).1
def mX : Wm.Bs := dsF m2 256 2 [600, 5, 259, 1] 4
def mY : Wm.Bs := dsF m2 256 2 [1020, 5, 1, 1] 4
theorem m0_bs : Wm.isBs m0 := Zs_bs 8
theorem m1_bs : Wm.isBs m1 := dsF_bs m0_bs _ _ _ _
theorem m2_bs : Wm.isBs m2 := dsF_bs m1_bs _ _ _ _
theorem mN_bs : Wm.isBs mN := Rg.takM_bs _ _ _ _ m2_bs
theorem mX_bs : Wm.isBs mX := dsF_bs m2_bs _ _ _ _
theorem mY_bs : Wm.isBs mY := dsF_bs m2_bs _ _ _ _
theorem ok_8 : Rg.Ok (8 * 128) 256 4 := by decide
theorem x_f0 : Rg.fst m2 256 4 0 4 = some 1 := by decide +kernel
theorem x_f2 : Rg.fst m2 256 4 2 4 = some 2 := by decide +kernel
theorem x_te : Rg.takE 1024 m2 256 4 1 = 0 := by decide +kernel
theorem x_tl : Rg.takL 1024 m2 256 4 1 = l1 := by decide +kernel
theorem x_oe : Rg.takE 1024 mN 256 4 1 = 165 := by decide +kernel
theorem x_ol : Rg.takL 1024 mN 256 4 1 = [] := by decide +kernel
theorem x_om : Rg.takM 1024 mN 256 4 1 = mN := by decide +kernel
theorem x_n : (scF mN (Wm.ofS abc) l1).2 = 5 := by decide +kernel
theorem x_r : strOfNums (Mm.rd mP 598 8) = ⟨#[0, 0, 97, 98, 99, 100, 101, 0]⟩ := by decide +kernel
theorem x_room : Rg.room l1 = 5 := by decide +kernel
theorem x_xe : Rg.takE 1024 mX 256 4 1 = 163 := by decide +kernel
theorem x_xs : Rg.wd (Rg.takM 1024 mX 256 4 1) 256 1 3 = 7 := by decide +kernel
theorem x_ye : Rg.takE 1024 mY 256 4 2 = 161 := by decide +kernel
theorem x_ys : Rg.wd (Rg.takM 1024 mY 256 4 2) 256 2 3 = 5 := by decide +kernel
theorem x_s1 : Rg.wd mN 256 1 3 = 2 := by decide +kernel
theorem x_s2 : Rg.wd mN 256 2 3 = 2 := by decide +kernel
theorem x_c4 : chk 1024 256 4 = 0 := by decide +kernel
theorem x_c3 : chk 1024 256 3 = 160 := by decide +kernel
theorem l1_sml : Sml l1 := by
  refine ⟨by decide, fun p hp => ?_⟩
  simp only [l1, List.mem_cons, List.not_mem_nil, or_false] at hp
  rcases hp with rfl | rfl <;> decide
theorem run_w4 (a b c d : Int) (w : World) : (Instr.buildSlice 110 4 #[(0, .int .u32 a), (1, .int .u32 b), (2, .int .u32 c), (3, .int .u32 d)]).run Try.prog w = .ok (.slice (some ⟨w.heap.size, 0, none⟩) 4 4) (w.alloc (.cells (N32 [a, b, c, d]).toArray 25)) := by kernel_rfl
theorem run_p2 (w : World) : (Instr.buildSlice 35 2 #[(0, .agg (Pc (1, 512, 3, false)).toArray), (1, .agg (Pc (2, 600, 5, true)).toArray)]).run Try.prog w = .ok (.slice (some ⟨w.heap.size, 0, none⟩) 2 2) (w.alloc (.cells (Ps l1).toArray 59)) := by kernel_rfl
theorem run_pa (w : World) : (Instr.build 59 #[(0, .int .i64 1), (1, .int .i64 512), (2, .int .i64 3)]).run Try.prog w = .ok (.agg (Pc (1, 512, 3, false)).toArray) w := run_build' w _ _ _ (by kernel_rfl)
theorem run_r43 (a b : Int) (w : World) : (Instr.build 27 #[(0, .int .u32 a), (1, .int .u32 b)]).run Try.prog w = .ok (.agg [.int .u32 a, .int .u32 b].toArray) w := run_build' w _ _ _ (by kernel_rfl)
section
variable (A : Option Addr) (c : Nat) (b : Wm.Bs) (w : World) (hs : Sl w 128 A 8 (U b)) (hb : Wm.isBs b)
include hs hb
theorem k_ds (i : Int) (i0 : 0 ≤ i) (i1 : i ≤ 100) (hc : 8 ≤ c) (hm : c ≤ maxLen) (x0 x1 x2 x3 : Int) (hx : ∀ x ∈ [x0, x1, x2, x3], Tm.isE x) (g : Nat) (hg : Blk w g 25 (N32 [x0, x1, x2, x3])) :
    Calls Try.prog 36 #[.agg #[.slice A 8 c], .agg #[.int .u32 256, .int .u32 4], .int .i64 i, .slice (some ⟨g, 0, none⟩) 4 4] w (GotV 8 (dsF b 256 i [x0, x1, x2, x3] 4) w) :=
  describe_any A 8 c b 256 4 i (some ⟨g, 0, none⟩) 4 [x0, x1, x2, x3] 4 w hs hb (by omega) (by omega) hc hm (by omega) (by omega) i0 i1 (hg.sl 0 4 (Nat.le_refl _)) rfl (Nat.le_refl _) hx
theorem k_first (pos : Int) (h0 : 0 ≤ pos) (h1 : pos < 4) : Calls Try.prog 14 #[.agg #[.slice A 8 c], .agg #[.int .u32 256, .int .u32 4], .int .i64 pos] w fun e w' => e = .returned (.tuple #[.int .i64 (fI (Rg.fst b 256 4 pos 4)), .bool (Rg.fst b 256 4 pos 4).isSome]) ∧ Later w w' :=
  pfirst_any A 8 c b 256 4 pos w hs hb (by omega) (by omega) ok_8 h0 h1
theorem k_take (i : Int) (h0 : 0 ≤ i) (h1 : i < 4) : Calls Try.prog 15 #[.agg #[.slice A 8 c], .agg #[.int .u32 256, .int .u32 4], .int .i64 i] w (GotT 8 (Rg.takM 1024 b 256 4 i) (Rg.takL 1024 b 256 4 i) (Rg.takE 1024 b 256 4 i) w) :=
  take_any A 8 c b 256 4 i w hs hb (by omega) (by omega) ok_8 h0 h1
theorem k_stat (i : Int) (h0 : 0 ≤ i) (h1 : i < 4) : Calls Try.prog 32 #[.agg #[.slice A 8 c], .agg #[.int .u32 256, .int .u32 4], .int .i64 i] w fun e w' => e = .returned (.int .u32 (Rg.wd b 256 i 3)) ∧ Later w w' :=
  lstatus_any A 8 c b 256 4 i w hs hb (by omega) (by omega) ok_8 h0 h1
end
theorem k_check (A : Option Addr) (c : Nat) (S v : Int) (w : World) (hS : Tm.isE S) (hv : chk 1024 256 S = v) : Calls Try.prog 11 #[.agg #[.slice A 8 c], .agg #[.int .u32 256, .int .u32 S]] w fun e w' => e = .returned (.int .i64 v) ∧ Later w w' := by
  have h := pcheck_any A 8 c 256 S w (by omega) ⟨by omega, by omega⟩ hS
  rw [show chk (8 * 128) 256 S = v from hv] at h
  exact h
theorem k_new (w : World) : Calls Try.prog 35 #[.int .i64 8] w fun e w' => ∃ g, e = .returned (.tuple #[.agg #[.slice (some ⟨g, 0, none⟩) 8 8], .int .i64 0]) ∧ w.heap.size ≤ g ∧ Draft w' g 8 m0 ∧ Later w w' := new_ok 8 w ⟨by omega, by omega⟩
theorem e4 {x0 x1 x2 x3 : Int} (h : decide (0 ≤ x0 ∧ x0 < 4294967296 ∧ 0 ≤ x1 ∧ x1 < 4294967296 ∧ 0 ≤ x2 ∧ x2 < 4294967296 ∧ 0 ≤ x3 ∧ x3 < 4294967296) = true) : ∀ x ∈ [x0, x1, x2, x3], Tm.isE x := by
  have h := of_decide_eq_true h
  intro x hx
  simp only [List.mem_cons, List.not_mem_nil, or_false] at hx
  rcases hx with rfl | rfl | rfl | rfl <;> exact ⟨by omega, by omega⟩
end Go.Proofs.Ytffgbbfcbobecaa
