/-
  Step BY ITS MODEL.
-/
import Derived.Test.YtidhodalnikhlaaGreatDoorWp
namespace Go.Proofs.YtidhodalnikhlaaGreatDoor
open Go.RowKit Go.ChangeShapes Go.WideShapes Go.ChangeAt

def zS : Sp := ⟨zC, .slice none 0 0, 0, 0, 0, 0, 0, 0, false, zC, zC, 0, .slice none 0 0, .slice none 0 0, false, false, 0, 0, 0, 0, 0⟩
def iS (x : Cpu) (m : Value) (p : Int) : Sp := { zS with c := x, m := m, p := p, dn := true, old := x }
theorem eff_one (s : Sp) (h1 : s.wv.oneCell' = true) (h2 : s.av.oneCell' = true) : ∀ v ∈ s.eff, v.oneCell' = true := by
  intro v hv
  unfold Sp.eff at hv
  rcases List.mem_cons.1 hv with rfl | hv
  · rfl
  rcases List.mem_append.1 hv with hv | hv
  · exact cpu_one _ v hv
  rcases List.mem_append.1 hv with hv | hv
  · exact cpu_one _ v hv
  simp only [List.mem_cons, List.not_mem_nil, or_false] at hv
  rcases hv with rfl | rfl | rfl | rfl | rfl | rfl | rfl | rfl | rfl | rfl <;> first | rfl | assumption
theorem step_one (s : Sp) (h0 : s.m.oneCell' = true) (h1 : s.wv.oneCell' = true) (h2 : s.av.oneCell' = true) : ∀ v ∈ s.cells, v.oneCell' = true := by
  intro v hv
  unfold Sp.cells at hv
  rcases List.mem_append.1 hv with hv | hv
  · exact cpu_one _ v hv
  rcases List.mem_append.1 hv with hv | hv
  · unfold Sp.mid at hv
    simp only [List.mem_cons, List.not_mem_nil, or_false] at hv
    rcases hv with rfl | rfl | rfl | rfl | rfl | rfl | rfl <;> first | rfl | assumption
  · exact eff_one s h1 h2 v hv
theorem built_e2 (x : Cpu) : Tryz.prog.built 38 [(0, .bool true), (2, .agg x.cells.toArray)] = some ({ zS with dn := true, old := x } : Sp).eff.toArray := by kernel_rfl
theorem built_s (x y : Cpu) (m : Value) (p : Int) : Tryz.prog.built 86 [(0, .agg x.cells.toArray), (1, .agg #[m]), (2, .int .u32 p), (4, .agg ({ zS with dn := true, old := y } : Sp).eff.toArray)] = some ({ zS with c := x, m := m, p := p, dn := true, old := y } : Sp).cells.toArray := by kernel_rfl
theorem wp_eq_world {P : Program} {c : Code} {Q : Exit → Act → World → Prop} {a : Act} {w u : World} (e : u = w) (h : c.wp P Q a u) : c.wp P Q a w := e ▸ h
theorem own_one {w : World} {base : Nat} {e : TypeId} {size n : Nat} {v : Value} {xs : List Value} (h : w.ownsRow base e size v n xs) : v.oneCell' = true := by
  rcases h.2 with ⟨rfl, _⟩ | ⟨g, cap, cur, rfl, _⟩ <;> rfl
set_option maxRecDepth 100000 in
set_option maxHeartbeats 40000000 in
theorem step_yes (x : Cpu) (A : Option Addr) (n c : Nat) (b : Wm.Bs) (p : Int) (w : World) (hs : Sl w 128 A n (U b)) (hb : Wm.isBs b) (hn1 : 1 ≤ n) (hn : n ≤ 64) (rv : x.Rv) (c0 : 0 ≤ x.c0 ∧ x.c0 ≤ 4294967295) (hpc : 0 ≤ x.pc ∧ x.pc ≤ 4294967295) (c5 : Tm.isE x.c5) (hp : Tm.isE p) (hcn : 0 ≤ x.cn ∧ x.cn < 4611686018427387904) (tab : Tab w) (h0 : 0 < w.heap.size) (hr : rdy x.hl x.wt p = true) :
    Calls Tryz.prog 13 #[.agg x.cells.toArray, .agg #[.slice A n c], .int .u32 p] w fun e w' => ∃ (s2 : Sp) (ws2 : List (Int × Int × Int)) (ac2 : List (Int × Int × Bool)), e = .returned (.agg ({ s2 with ec := s2.c } : Sp).eff.toArray) ∧ s2.out ws2 ac2 = Cm.run n b x.pc p (({ zS with c := { x with cn := x.cn + 1, wt := false }, m := .slice A n c, p := p, dn := true, old := x } : Sp).out [] []) ∧ s2.dn = true ∧ s2.old = x ∧ w'.ownsRow w.heap.size 64 3 s2.wv ws2.length (Ws ws2) ∧ w'.ownsRow w.heap.size 53 3 s2.av ac2.length (Acs ac2) ∧ Later w w' := by
  obtain ⟨u0, hu⟩ : ∃ u0, u0 = ((w.alloc (.cells x.cells.toArray 26)).alloc (.cells #[.slice A n c] 29)).alloc (.cells zS.eff.toArray 38) := ⟨_, rfl⟩
  have l0 : Later w u0 := by rw [hu]; exact ((later1 w _).alloc (by simp) _).alloc (by simp; omega) _
  have z0 : u0.heap.size = w.heap.size + 3 := by rw [hu]; simp
  have bC : Blk u0 w.heap.size 26 x.cells := by rw [hu]; exact ((Blk.new w 26 x.cells.toArray x.cells rfl).alloc _).alloc _
  have bM : Blk u0 (w.heap.size + 1) 29 [.slice A n c] := by rw [hu]; exact (Blk.new' (w.alloc (.cells x.cells.toArray 26)) (w.heap.size + 1) 29 #[.slice A n c] [.slice A n c] (by simp) rfl).alloc _
  have bE : Blk u0 (w.heap.size + 1 + 1) 38 zS.eff := by rw [hu]; exact Blk.new' ((w.alloc (.cells x.cells.toArray 26)).alloc (.cells #[.slice A n c] 29)) (w.heap.size + 1 + 1) 38 zS.eff.toArray zS.eff (by simp) rfl
  have HR := Lib.hid fun w' => ready_any x p w' hp
  rw [hr] at HR
  have HM := Lib.hid fun w' B' (h : At w.heap.size w' B' ({ zS with c := { x with cn := x.cn + 1, wt := false }, m := .slice A n c, p := p, dn := true, old := x } : Sp) A n c [] [] b) (l : Later w w') => do_model h hb hn rv c0 hpc c5 hp (tab.keep l) h0
  have HSl := Lib.hid fun w' (l : Later w w') => hs.keep l
  have hAb : ∀ ad, A = some ad → ad.block < w.heap.size := fun ad e => by
    obtain ⟨ad', e', hl, _⟩ := hs.2 (by omega)
    rw [e] at e'
    cases e'
    exact hl
  have HAb := Lib.hid hAb
  have x1 : IntKind.i64.wrap (x.cn + 1) = x.cn + 1 := by rw [IntKind.wrap_i64]; omega
  clear hp hr hs hb rv c0 hpc c5 hcn tab hAb
  have HE := Lib.hid fun w => run_build w _ #[(0, .bool true), (2, .agg x.cells.toArray)] _ (built_e2 x)
  have HS := Lib.hid fun w => run_build w _ #[(0, .agg x.cells.toArray), (1, .agg #[.slice A n c]), (2, .int .u32 p), (4, .agg ({ zS with dn := true, old := x } : Sp).eff.toArray)] _ (built_s x x (.slice A n c) p)
  obtain ⟨E, hE⟩ : ∃ E, E = ({ zS with dn := true, old := x } : Sp).eff.toArray := ⟨_, rfl⟩
  obtain ⟨C, hC⟩ : ∃ C, C = ({ zS with c := x, m := .slice A n c, p := p, dn := true, old := x } : Sp).cells := ⟨_, rfl⟩
  rw [← hE] at HE HS
  rw [← hC] at HS
  have hCl : ∀ v ∈ C, v.oneCell' = true := by rw [hC]; exact step_one _ rfl rfl rfl
  have hCs : (Tryz.prog.info? 86).map (·.size) = some C.length := by rw [hC]; exact step_sz _
  have hCe : zS.cells.length = C.length := by rw [hC]; rfl
  have HC := Lib.hid hC
  clear hE hC
  go_enter Tryz.func13, Tryz.ntmps13
  go_upto_region 1 with fail
  refine wp_eq_world (u := u0) hu ?_
  clear hu
  go_wp2_with (first
    | ((with_reducible refine wpList_load_blk (o := ⟨some 8, .load 26 (.tmp 3), _, _, _, none⟩) rfl _ _ rfl w.heap.size 26 x.cells _ ?_ ?_ Tryz.underlying26 rfl (cpu_sz _) ?_); rfl; exact bC)
    | (go_at_call 20; refine (HR.out _).mono ?_; rintro e w1 ⟨rfl, l1⟩; replace bC := bC.keep l1; replace bM := bM.keep l1; replace bE := bE.keep l1; have l2 := Later.trans_ l0 l1)
    | ((with_reducible refine wpList_load_blk (o := ⟨some 14, .load 26 (.tmp 3), _, _, _, none⟩) rfl _ _ rfl w.heap.size 26 x.cells _ ?_ ?_ Tryz.underlying26 rfl (cpu_sz _) ?_); rfl; exact bC)
    | ((with_reducible refine wpList_load_blk (o := ⟨some 17, .load 26 (.tmp 3), _, _, _, none⟩) rfl _ _ rfl w.heap.size 26 x.cells _ ?_ ?_ Tryz.underlying26 rfl (cpu_sz _) ?_); rfl; exact bC)
    | ((with_reducible refine wpList_load_blk (o := ⟨some 15, .load 29 (.tmp 4), _, _, _, none⟩) rfl _ _ rfl (w.heap.size + 1) 29 [.slice A n c] _ ?_ ?_ Tryz.underlying29 rfl mem_sz ?_); rfl; exact bM)
    | ((with_reducible refine wpList_bld (o := ⟨some 18, .build 38 #[(0, .const (.bool true)), (2, .tmp 17)], _, _, _, none⟩) rfl _ #[(0, .const (.bool true)), (2, .tmp 17)] #[(0, .bool true), (2, .agg x.cells.toArray)] E rfl ?_ (HE.out _) ?_); rfl)
    | ((with_reducible refine wpList_bld (o := ⟨some 19, .build 86 #[(0, .tmp 14), (1, .tmp 15), (2, .tmp 16), (4, .tmp 18)], _, _, _, none⟩) rfl _ #[(0, .tmp 14), (1, .tmp 15), (2, .tmp 16), (4, .tmp 18)] #[(0, .agg x.cells.toArray), (1, .agg #[.slice A n c]), (2, .int .u32 p), (4, .agg E)] C.toArray rfl ?_ (HS.out _) ?_); rfl)
    | ((with_reducible refine wpList_store_abs (o := ⟨none, .store 86 (.tmp 7) (.tmp 19), _, _, _, none⟩) rfl _ _ _ rfl w1.heap.size 86 zS.cells C ?_ ?_ (Blk.new w1 86 Tryz.zeroCells86 zS.cells (by kernel_rfl)) hCs hCe hCl ?_); rfl; rfl; intro w3 b3 o3; rw [HC.out] at b3; have l3 : Later w w3 := Below.only (Later.trans_ l2 (later1 w1 _)) o3 l2.size; replace bE := (bE.keep (later1 w1 (.cells Tryz.zeroCells86 86))).only o3 (by have := l1.size; omega); have hA : At w.heap.size w3 w1.heap.size ({ zS with c := x, m := .slice A n c, p := p, dn := true, old := x } : Sp) A n c [] [] b := ⟨l2.size, b3, ⟨rfl, .inl ⟨rfl, rfl⟩⟩, ⟨rfl, .inl ⟨rfl, rfl⟩⟩, hn1, rfl, HSl.out _ l3, fun ad e => ⟨Nat.ne_of_lt (Nat.lt_of_lt_of_le (HAb.out ad e) l2.size), by simp [zS, Value.ownBlock], by simp [zS, Value.ownBlock]⟩⟩; have e29 := hA.bx.cell (j := 29) (v := .int .i64 x.cn) rfl; have f29 := hA.bx.frz 29; obtain ⟨h4, S4⟩ := hA.set (s' := ({ zS with c := { x with cn := x.cn + 1 }, m := .slice A n c, p := p, dn := true, old := x } : Sp)) 29 (.int .i64 (x.cn + 1)) rfl rfl rfl rfl; have e27 := h4.bx.cell (j := 27) (v := .bool x.wt) rfl; have f27 := h4.bx.frz 27; obtain ⟨h5, S5⟩ := h4.set (s' := ({ zS with c := { x with cn := x.cn + 1, wt := false }, m := .slice A n c, p := p, dn := true, old := x } : Sp)) 27 (.bool false) rfl rfl rfl rfl; replace bE := h4.other S5 (hA.other S4 bE (by decide) (by decide) (by decide)) (by decide) (by decide) (by decide); have l5 := Below.trans l3 (S4.trans S5).lt)
    | (go_at_call 33; refine (HM.out _ _ h5 l5).mono ?_; rintro e w6 ⟨rfl, s2, A2, c2, ws2, ac2, b2, h6, S6, k1, k2⟩; replace bE := h5.other S6 bE (by decide) (by decide) (by decide); have l6 := Below.trans l5 S6.lt)
    | ((refine wpList_load_at (o := ⟨some 30, .load 26 (.tmp 29), _, _, _, none⟩) rfl _ _ rfl w1.heap.size 0 30 86 s2.cells s2.c.cells _ ?_ h6.bx rfl Tryz.underlying26 rfl (cpu_sz _) ?_); rfl)
    | ((refine wpList_store_at (o := ⟨none, .store 26 (.tmp 32) (.tmp 30), _, _, _, none⟩) rfl _ _ _ rfl rfl w1.heap.size 38 86 s2.cells s2.c.cells ?_ ?_ h6.bx (cpu_sz _) (show 38 + 30 ≤ 108 from by decide) (cpu_one _) ?_); rfl; rfl; intro w7 b7 o7; replace b7 : Blk w7 w1.heap.size 86 ({ s2 with ec := s2.c } : Sp).cells := b7; obtain ⟨h7, S7⟩ := h6.put o7 b7 rfl rfl rfl; replace bE := h6.other S7 bE (by decide) (by decide) (by decide); have l7 := Below.trans l6 S7.lt)
    | ((refine wpList_load_at (o := ⟨some 34, .load 38 (.tmp 33), _, _, _, none⟩) rfl _ _ rfl w1.heap.size 37 71 86 ({ s2 with ec := s2.c } : Sp).cells ({ s2 with ec := s2.c } : Sp).eff _ ?_ h7.bx rfl Tryz.underlying38 rfl (eff_sz _) ?_); rfl)
    | ((refine wpList_store_abs (o := ⟨none, .store 38 (.tmp 6) (.tmp 34), _, _, _, none⟩) rfl _ _ _ rfl (w.heap.size + 1 + 1) 38 zS.eff ({ s2 with ec := s2.c } : Sp).eff ?_ ?_ bE (eff_sz _) rfl (eff_one _ (own_one h7.rw) (own_one h7.ra)) ?_); rfl; rfl; intro w8 b8 o8))
  exact bodyPost_ret (results_blk Tryz.results13 _ _ (w.heap.size + 1 + 1) 38 ({ s2 with ec := s2.c } : Sp).eff _ rfl b8 Tryz.underlying38 rfl (eff_sz _)) rfl ⟨s2, ws2, ac2, rfl, k1, k2.1, k2.2.2.1, own_block h7.rw (fun g hg => o8.2.2.2.2 g fun q => own_ne h7.rw bE (by decide) (q ▸ hg)), own_block h7.ra (fun g hg => o8.2.2.2.2 g fun q => own_ne h7.ra bE (by decide) (q ▸ hg)), Below.only l7 o8 (by omega)⟩
end Go.Proofs.YtidhodalnikhlaaGreatDoor
