/-
  THE WALK OF the statements' sanity check: the document's examples.
-/
import Derived.Test.YtempcbdlaoblhabTabS
import Derived.Test.YtempcbdlaoblhabTabR
namespace Go.Proofs.Ytempcbdlaoblhab
open Go.RowKit Go.ChangeShapes Go.WideShapes Go.ChangeAt

theorem mapM_bs {n : Nat} {b : Wm.Bs} (hb : Wm.isBs b) (root va pa r tb : Int) : Wm.isBs (Tm.mapM n b root va pa r tb) := by
  unfold Tm.mapM
  split
  · split
    · exact Mm.st_bs hb _ _ _
    · cases h : Mm.ap b (Tm.newL root va pa r tb) with
      | none => exact hb
      | some x => exact (Mm.ap_ok _ hb h).2
  · exact hb
theorem largeM_bs {n : Nat} {b : Wm.Bs} (hb : Wm.isBs b) (root va pa r : Int) : Wm.isBs (Tm.largeM n b root va pa r) := by
  unfold Tm.largeM
  split
  · exact Mm.st_bs hb _ _ _
  · exact hb
theorem tm1_bs : Wm.isBs tm1 := mapM_bs (Zs_bs 64) _ _ _ _ _
theorem tm2_bs : Wm.isBs tm2 := largeM_bs tm1_bs _ _ _ _
theorem tk_map (g c : Nat) (w : World) (hd : Draft w g 64 (Zs 64)) : Calls Try.prog 14 #[.agg #[.slice (some ⟨g, 0, none⟩) 64 c], .int .u32 128, .int .u32 4224, .int .u32 256, .int .i64 2, .int .u32 384] w (GotME 64 tm1 0 w) := by
  have h := map_any (some ⟨g, 0, none⟩) 64 c 128 4224 256 2 384 (Zs 64) w hd.sl (Zs_bs 64) (by omega) (by omega) (by omega) (by omega) (by omega) (by omega) (by omega)
  rw [te_1] at h
  exact h
theorem tk_large (g c : Nat) (w : World) (hd : Draft w g 64 tm1) : Calls Try.prog 15 #[.agg #[.slice (some ⟨g, 0, none⟩) 64 c], .int .u32 128, .int .u32 8192, .int .u32 4096, .int .i64 8] w (GotME 64 tm2 0 w) := by
  have h := mapLarge_any (some ⟨g, 0, none⟩) 64 c 128 8192 4096 8 tm1 w hd.sl tm1_bs (by omega) (by omega) (by omega) (by omega) (by omega) (by omega)
  rw [te_2] at h
  exact h
theorem tk_load (a v : Int) (g c : Nat) (w : World) (hd : Draft w g 64 tm2) (ha : -9223372036854775808 ≤ a ∧ a ≤ 9223372036854775807) (e1 : Mm.ld tm2 a 4 = v) (e2 : decide (Mm.There (64 * 128) a 4) = true) :
    Calls Try.prog 25 #[.agg #[.slice (some ⟨g, 0, none⟩) 64 c], .int .i64 a, .int .i64 4] w fun e w' => e = .returned (.tuple #[.int .u32 v, .bool true]) ∧ Later w w' := by
  have h := load_any (some ⟨g, 0, none⟩) 64 c a 4 tm2 w hd.sl tm2_bs (by omega) (by omega) ha
  rw [e1, e2] at h
  exact h
/-- What hands back a walk, and a cause, by their parts. -/
def GotX (a l : Int) (s : List (Int × Int × Int)) (r : List Int) (ns nr : Nat) (ca : Int) (w : World) (e : Ending) (w' : World) : Prop :=
  ∃ AS AR sc rc, e = .returned (.tuple #[.agg #[.int .i64 a, .int .i64 l, .slice AS ns sc, .slice AR nr rc], .int .i64 ca]) ∧ Sl w' 3 AS ns (Ws s) ∧ Sl w' 1 AR nr (N64 r) ∧ Later w w'
theorem tk_walk (root va acc : Int) (u : Bool) (X : Tm.Wk) (hX : Tm.walk 64 tm2 root va acc u = X) (ca : Int) (hc : (if X.ok then 0 else Tm.cause acc) = ca) (g c : Nat) (w : World) (hd : Draft w g 64 tm2) (hr : 0 ≤ root ∧ root < 4294967296) (hv : 0 ≤ va ∧ va < 4294967296) :
    Calls Try.prog 11 #[.agg #[.slice (some ⟨g, 0, none⟩) 64 c], .int .u32 root, .int .u32 va, .int .i64 acc, .bool u] w (GotX X.a X.l X.s X.r X.s.length X.r.length ca w) := by
  have h := twalk_any (some ⟨g, 0, none⟩) 64 c root va acc u tm2 w hd.sl tm2_bs (by omega) (by omega) hr.1 hr.2 hv.1 hv.2
  rw [hX] at h
  refine h.mono fun e w' hh => ?_
  unfold GotW at hh
  rw [hc] at hh
  exact hh
def tmg1 : Mg := ⟨(4224, 256, 3), by decide⟩
def tmg2 : Mg := ⟨(8192, 4096, 73), by decide⟩
theorem mg_two (L : List Mg) (x y : Mg) (h : L.map (fun x => x.1) = [x, y].map (fun x => x.1)) : L = [x, y] :=
  (List.map_inj_right (fun _ _ e => Subtype.ext e)).1 h
theorem te_list : Tm.lst 64 tm2 128 = [tmg1, tmg2] := mg_two _ tmg1 tmg2 te_11
theorem tk_list (g c : Nat) (w : World) (hd : Draft w g 64 tm2) : Calls Try.prog 22 #[.agg #[.slice (some ⟨g, 0, none⟩) 64 c], .int .u32 128] w fun e w' => ∃ L k, e = .returned (.slice L 2 k) ∧ Sl w' 3 L 2 (Mgs [tmg1, tmg2]) ∧ Later w w' := by
  have h := tlist_any (some ⟨g, 0, none⟩) 64 c 128 tm2 w hd.sl tm2_bs (by omega) (by omega) (by omega) (by omega)
  rw [te_list] at h
  exact h
theorem sl_blk {w : World} {B k : Nat} {t : TypeId} {z : Nat} {cs : List Value} (h : Blk w B t cs) (hl : cs.length = k * z) : Sl w z (some ⟨B, 0, none⟩) k cs := by
  refine ⟨hl, fun _ => ⟨_, rfl, h.lt, fun j u hu => ?_⟩⟩
  rw [Addr.add_mid, Nat.zero_add]
  exact h.cell hu
end Go.Proofs.Ytempcbdlaoblhab
