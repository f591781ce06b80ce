/-
  THE WALKS OF Store; New; the reference's New.
-/
import Derived.Test.YtffgbbfcbobecaaMemG
namespace Go.Proofs.Ytffgbbfcbobecaa
open Go.RowKit Go.ChangeShapes Go.WideShapes Go.ChangeAt

theorem apply_any (A : Option Addr) (n c m cl : Nat) (AL : Option Addr) (L : List (Int × Int × Int)) (b : Wm.Bs) (w : World) (hs : Sl w 128 A n (U b)) (hb : Wm.isBs b) (hn1 : 1 ≤ n) (hn : n ≤ 64) (hsl : Sl w 3 AL m (Ws L)) (hL : L.length = m) (hW : ∀ x ∈ L, isW x) (hm : m ≤ 1000000) :
    Calls Try.prog 66 #[.agg #[.slice A n c], .slice AL m cl] w (GotMB n ((Mm.ap b L).getD b) (Mm.ap b L).isSome w) := by
  cases hx : Mm.ap b L with
  | none => exact apply_none A n c m cl AL L b w hs hb hn1 hn hsl hL hW hm hx
  | some x => exact apply_some A n c m cl AL L b x w hs hb hn1 hn hsl hL hW hm hx
theorem ap_one (b : Wm.Bs) (a s v : Int) : (Mm.ap b [(a, s, v)]).getD b = Mm.st b a s v ∧ (Mm.ap b [(a, s, v)]).isSome = decide (Mm.There b.length a s) := by
  rw [Mm.ap_cons]
  unfold Mm.st
  by_cases h : Mm.There b.length a s
  · simp only [h, if_true, Mm.ap_nil]; exact ⟨rfl, rfl⟩
  · simp only [h, if_false]; exact ⟨rfl, rfl⟩
theorem sl_w1 {w : World} {B : Nat} {t : TypeId} {a s v : Int} (h : Blk w B t [.int .i64 a, .int .i64 s, .int .u32 v]) : Sl w 3 (some ⟨B, 0, none⟩) 1 (Ws [(a, s, v)]) := by
  refine ⟨rfl, fun _ => ⟨_, rfl, h.lt, fun j u hu => ?_⟩⟩
  rw [Addr.add_mid, Nat.zero_add]
  exact h.cell hu

set_option maxRecDepth 100000 in
set_option maxHeartbeats 2000000 in
theorem pstore_any (A : Option Addr) (n c : Nat) (a s v : Int) (b : Wm.Bs) (w : World) (hs : Sl w 128 A n (U b)) (hb : Wm.isBs b) (hn1 : 1 ≤ n) (hn : n ≤ 64) (hw : isW (a, s, v)) :
    Calls Try.prog 59 #[.agg #[.slice A n c], .agg #[.int .i64 a, .int .i64 s, .int .u32 v]] w (GotMB n (Mm.st b a s v) (decide (Mm.There (n * 128) a s)) w) := by
  have hbl : b.length = n * 128 := by have := hs.1; rwa [U_length] at this
  have HA := Lib.hid fun (w' : World) (B : Nat) (t : TypeId) (hl : Later w w') (h : Blk w' B t [.int .i64 a, .int .i64 s, .int .u32 v]) => by
    have h1 := apply_any A n c 1 1 (some ⟨B, 0, none⟩) [(a, s, v)] b w' (hs.keep hl) hb hn1 hn (sl_w1 h) rfl (fun x hx => by
      obtain rfl : x = (a, s, v) := by simpa using hx
      exact hw) (by omega)
    rw [(ap_one b a s v).1, (ap_one b a s v).2, hbl] at h1
    exact h1
  obtain ⟨q, hq⟩ : ∃ q, q = decide (Mm.There (n * 128) a s) := ⟨_, rfl⟩
  rw [← hq] at HA ⊢
  clear hq hs hbl hw
  have l0 := ((later1 w (.cells #[.slice A n c] 24)).alloc (by simp) (.cells #[.int .i64 a, .int .i64 s, .int .u32 v] 85)).alloc (by simp; omega) (.cells #[.slice none 0 0] 24)
  have bR := Blk.new' ((w.alloc (.cells #[.slice A n c] 24)).alloc (.cells #[.int .i64 a, .int .i64 s, .int .u32 v] 85)) (w.heap.size + 1 + 1) 24 #[.slice none 0 0] [.slice none 0 0] (by simp) rfl
  go_enter Try.func59, Try.ntmps59
  go_wp2_with (first
    | (go_at_call 66; refine (HA.out _ _ 85 (l0.alloc (by simp; omega) _) (Blk.new' _ _ _ _ _ (by simp) rfl)).mono ?_; rintro e w1 ⟨g, c', rfl, k1, k2, k3, k4, k5⟩; replace bR := (bR.alloc _).keep k5; have cR := bR.cell (j := 0) (v := .slice none 0 0) rfl; have fR := bR.frz 0; have l1 := Later.trans_ (l0.alloc (by simp; omega) _) k5))
  have hg1 : w.heap.size + 4 ≤ g := by simpa using k1
  exact bodyPost_ret (v := .tuple #[.agg #[.slice (some ⟨g, 0, none⟩) n c'], .bool q]) (results_cell_tmp Try.results59 _ _ (w.heap.size + 1 + 1) 24 _ _ _ rfl rfl (bR.set 0 (.slice (some ⟨g, 0, none⟩) n c')) Try.underlying24 rfl mem_sz) rfl ⟨g, c', rfl, by omega, k2, k3, k4.only (Only.set _ _ _ _) (by omega), l1.setCell (by simp; omega) _⟩

/-- A memory of zeros. -/
def Zs (n : Nat) : Wm.Bs := List.replicate (n * 128) 0
theorem Zs_bs (n : Nat) : Wm.isBs (Zs n) := fun x hx => by rw [List.eq_of_mem_replicate hx]; decide
theorem made_zeros (n : Nat) : madeCells (Value.agg (Array.replicate 128 (.int .u8 0))).cells (n * 128) = (U (Zs n)).toArray := by
  apply Array.ext'
  apply List.ext_getElem?
  intro i
  unfold Zs U
  rw [List.map_replicate]
  show (madeCells (Array.replicate 128 (Value.int .u8 0)) (n * 128)).toList[i]? = _
  unfold madeCells
  simp
  rcases Nat.lt_or_ge i (n * 128) with h | h
  · rw [List.getElem?_range h, List.getElem?_replicate, if_pos h]
    simp only [Option.map_some]
    rw [getElem!_pos _ _ (by simp; omega)]
    simp
  · rw [List.getElem?_eq_none (by simpa using h), List.getElem?_eq_none (by simpa using h)]
    rfl
theorem draft_new {w : World} {n B : Nat} {t : TypeId} (hB : w.heap.size = B) : Draft (w.alloc (.cells (madeCells (Array.replicate 128 (.int .u8 0)) (n * 128)) t)) B n (Zs n) :=
  ⟨by unfold Zs; simp, t, [], by rw [show madeCells (Array.replicate 128 (Value.int .u8 0)) (n * 128) = (U (Zs n)).toArray from made_zeros n, List.append_nil, ← hB]; exact Blk.new _ _ _ _ rfl⟩

set_option maxRecDepth 100000 in
set_option maxHeartbeats 1000000 in
theorem new_bad (p : Int) (w : World) (h : ¬ (1 ≤ p ∧ p ≤ 64)) :
    Calls Try.prog 35 #[.int .i64 p] w fun e w' => e = .returned (.tuple #[.agg #[.slice none 0 0], .int .i64 1]) ∧ Later w w' := by
  have HA := Lib.hid fun w' => allowed_any p w'
  rw [decide_eq_false h] at HA
  clear h
  go_enter Try.func35, Try.ntmps35
  go_wp2_with (first
    | (go_at_call 58; refine (HA.out _).mono ?_; rintro e w1 ⟨rfl, rfl⟩))
  exact bodyPost_ret (v := .tuple #[.agg #[.slice none 0 0], .int .i64 1]) (results_cell_tmp Try.results35 _ _ w.heap.size 24 [.slice none 0 0] _ _ rfl rfl ((Blk.new w _ _ _ rfl).alloc _) Try.underlying24 rfl mem_sz) rfl ⟨rfl, (later1 _ _).alloc (by simp) _⟩
set_option maxRecDepth 100000 in
set_option maxHeartbeats 1000000 in
theorem new_ok (p : Nat) (w : World) (h : 1 ≤ p ∧ p ≤ 64) :
    Calls Try.prog 35 #[.int .i64 (p : Int)] w fun e w' => ∃ g, e = .returned (.tuple #[.agg #[.slice (some ⟨g, 0, none⟩) p p], .int .i64 0]) ∧ w.heap.size ≤ g ∧ Draft w' g p (Zs p) ∧ Later w w' := by
  obtain ⟨i0, hi, hz0, hz1, hz2⟩ := info_parts page_info
  have HA := Lib.hid fun w' => allowed_any (p : Int) w'
  rw [decide_eq_true (show 1 ≤ (p : Int) ∧ (p : Int) ≤ 64 by omega)] at HA
  have hmk := fun w' => run_makeSlice (P := Try.prog) w' 22 106 i0 _ Try.underlying22 hi hz0 .i64 .i64 (p : Int) (p : Int) (by omega) (by omega) (by rw [hz1]; omega) (by rw [hz2]; omega) (by omega)
  go_enter Try.func35, Try.ntmps35
  go_wp2_with (first
    | (go_at_call 58; refine (HA.out _).mono ?_; rintro e w1 ⟨rfl, rfl⟩))
  exact bodyPost_ret (v := .tuple #[.agg #[.slice (some ⟨w.heap.size + 1 + 1, 0, none⟩) p p], .int .i64 0]) (results_cell_tmp Try.results35 _ _ w.heap.size 24 [.slice (some ⟨w.heap.size + 1 + 1, 0, none⟩) p p] _ _ rfl rfl (((Blk.new w _ _ _ rfl).alloc _).alloc _) Try.underlying24 rfl mem_sz) rfl ⟨_, rfl, by omega, draft_new (by simp), ((later1 _ _).alloc (by simp) _).alloc (by simp; omega) _⟩
end Go.Proofs.Ytffgbbfcbobecaa
