/-
  THE WALKS OF Store; New; the reference's New.
-/
import Derived.Test.YtempcbdlaoblhabMemG
namespace Go.Proofs.Ytempcbdlaoblhab
open Go.RowKit Go.ChangeShapes Go.WideShapes Go.ChangeAt

theorem apply_any (A : Option Addr) (n c m cl : Nat) (AL : Option Addr) (L : List (Int × Int × Int)) (b : Wm.Bs) (w : World) (hs : Sl w 128 A n (U b)) (hb : Wm.isBs b) (hn1 : 1 ≤ n) (hn : n ≤ 64) (hsl : Sl w 3 AL m (Ws L)) (hL : L.length = m) (hW : ∀ x ∈ L, isW x) (hm : m ≤ 1000000) :
    Calls Try.prog 26 #[.agg #[.slice A n c], .slice AL m cl] w (GotMB n ((Mm.ap b L).getD b) (Mm.ap b L).isSome w) := by
  cases hx : Mm.ap b L with
  | none => exact apply_none A n c m cl AL L b w hs hb hn1 hn hsl hL hW hm hx
  | some x => exact apply_some A n c m cl AL L b x w hs hb hn1 hn hsl hL hW hm hx
theorem ap_one (b : Wm.Bs) (a s v : Int) : (Mm.ap b [(a, s, v)]).getD b = Mm.st b a s v ∧ (Mm.ap b [(a, s, v)]).isSome = decide (Mm.There b.length a s) := by
  rw [Mm.ap_cons]
  unfold Mm.st
  by_cases h : Mm.There b.length a s
  · simp only [h, if_true, Mm.ap_nil]; exact ⟨rfl, rfl⟩
  · simp only [h, if_false]; exact ⟨rfl, rfl⟩
theorem sl_w1 {w : World} {B : Nat} {t : TypeId} {a s v : Int} (h : Blk w B t [.int .i64 a, .int .i64 s, .int .u32 v]) : Sl w 3 (some ⟨B, 0, none⟩) 1 (Ws [(a, s, v)]) := by
  refine ⟨rfl, fun _ => ⟨_, rfl, h.lt, fun j u hu => ?_⟩⟩
  rw [Addr.add_mid, Nat.zero_add]
  exact h.cell hu

/-- A memory of zeros. -/
def Zs (n : Nat) : Wm.Bs := List.replicate (n * 128) 0
theorem Zs_bs (n : Nat) : Wm.isBs (Zs n) := fun x hx => by rw [List.eq_of_mem_replicate hx]; decide
theorem made_zeros (n : Nat) : madeCells (Value.agg (Array.replicate 128 (.int .u8 0))).cells (n * 128) = (U (Zs n)).toArray := by
  apply Array.ext'
  apply List.ext_getElem?
  intro i
  unfold Zs U
  rw [List.map_replicate]
  show (madeCells (Array.replicate 128 (Value.int .u8 0)) (n * 128)).toList[i]? = _
  unfold madeCells
  simp
  rcases Nat.lt_or_ge i (n * 128) with h | h
  · rw [List.getElem?_range h, List.getElem?_replicate, if_pos h]
    simp only [Option.map_some]
    rw [getElem!_pos _ _ (by simp; omega)]
    simp
  · rw [List.getElem?_eq_none (by simpa using h), List.getElem?_eq_none (by simpa using h)]
    rfl
theorem draft_new {w : World} {n B : Nat} {t : TypeId} (hB : w.heap.size = B) : Draft (w.alloc (.cells (madeCells (Array.replicate 128 (.int .u8 0)) (n * 128)) t)) B n (Zs n) :=
  ⟨by unfold Zs; simp, t, [], by rw [show madeCells (Array.replicate 128 (Value.int .u8 0)) (n * 128) = (U (Zs n)).toArray from made_zeros n, List.append_nil, ← hB]; exact Blk.new _ _ _ _ rfl⟩

set_option maxRecDepth 100000 in
set_option maxHeartbeats 1000000 in
theorem new_bad (p : Int) (w : World) (h : ¬ (1 ≤ p ∧ p ≤ 64)) :
    Calls Try.prog 27 #[.int .i64 p] w fun e w' => e = .returned (.tuple #[.agg #[.slice none 0 0], .int .i64 1]) ∧ Later w w' := by
  have HA := Lib.hid fun w' => allowed_any p w'
  rw [decide_eq_false h] at HA
  clear h
  go_enter Try.func27, Try.ntmps27
  go_wp2_with (first
    | (go_at_call 66; refine (HA.out _).mono ?_; rintro e w1 ⟨rfl, rfl⟩))
  exact bodyPost_ret (v := .tuple #[.agg #[.slice none 0 0], .int .i64 1]) (results_cell_tmp Try.results27 _ _ w.heap.size 24 [.slice none 0 0] _ _ rfl rfl ((Blk.new w _ _ _ rfl).alloc _) Try.underlying24 rfl mem_sz) rfl ⟨rfl, (later1 _ _).alloc (by simp) _⟩
set_option maxRecDepth 100000 in
set_option maxHeartbeats 1000000 in
theorem new_ok (p : Nat) (w : World) (h : 1 ≤ p ∧ p ≤ 64) :
    Calls Try.prog 27 #[.int .i64 (p : Int)] w fun e w' => ∃ g, e = .returned (.tuple #[.agg #[.slice (some ⟨g, 0, none⟩) p p], .int .i64 0]) ∧ w.heap.size ≤ g ∧ Draft w' g p (Zs p) ∧ Later w w' := by
  obtain ⟨i0, hi, hz0, hz1, hz2⟩ := info_parts page_info
  have HA := Lib.hid fun w' => allowed_any (p : Int) w'
  rw [decide_eq_true (show 1 ≤ (p : Int) ∧ (p : Int) ≤ 64 by omega)] at HA
  have hmk := fun w' => run_makeSlice (P := Try.prog) w' 22 120 i0 _ Try.underlying22 hi hz0 .i64 .i64 (p : Int) (p : Int) (by omega) (by omega) (by rw [hz1]; omega) (by rw [hz2]; omega) (by omega)
  go_enter Try.func27, Try.ntmps27
  go_wp2_with (first
    | (go_at_call 66; refine (HA.out _).mono ?_; rintro e w1 ⟨rfl, rfl⟩))
  exact bodyPost_ret (v := .tuple #[.agg #[.slice (some ⟨w.heap.size + 1 + 1, 0, none⟩) p p], .int .i64 0]) (results_cell_tmp Try.results27 _ _ w.heap.size 24 [.slice (some ⟨w.heap.size + 1 + 1, 0, none⟩) p p] _ _ rfl rfl (((Blk.new w _ _ _ rfl).alloc _).alloc _) Try.underlying24 rfl mem_sz) rfl ⟨_, rfl, by omega, draft_new (by simp), ((later1 _ _).alloc (by simp) _).alloc (by simp; omega) _⟩
end Go.Proofs.Ytempcbdlaoblhab
