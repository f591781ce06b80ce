/-
  THE WALKS OF untranslated, translated.
-/
import Derived.Test.YtempcbdlaoblhabTabH
namespace Go.Proofs.Ytempcbdlaoblhab
open Go.RowKit Go.ChangeShapes Go.WideShapes Go.ChangeAt

namespace Tm
/-- A walk: whether it leads anywhere, and where. -/
structure Wk where
  ok : Bool
  a : Int
  l : Int
  s : List (Int × Int × Int)
  r : List Int
def unt (n : Nat) (va : Int) : Wk := if va < (n : Int) * 128 then ⟨true, va, -1, [], []⟩ else ⟨false, 0, 0, [], []⟩
def wkOf (l : Lf) (va acc : Int) : Wk := ⟨true, pgOf l.e va + va % 128, l.a, if after l.e acc = l.e then [] else [(l.a, 4, after l.e acc)], l.r⟩
def trans (n : Nat) (b : Wm.Bs) (root va acc : Int) (u : Bool) : Wk :=
  if decide (va < 131072) && pageB n root then
    (if (find n b root va).ok && (pageB n (pgOf (find n b root va).e va) && allows (find n b root va).e acc u) then wkOf (find n b root va) va acc else ⟨false, 0, 0, [], (find n b root va).r⟩)
  else ⟨false, 0, 0, [], []⟩
def walk (n : Nat) (b : Wm.Bs) (root va acc : Int) (u : Bool) : Wk := if root = 0 then unt n va else trans n b root va acc u
theorem unt_no {n : Nat} {va : Int} (h : (unt n va).ok = false) : unt n va = ⟨false, 0, 0, [], []⟩ := by
  unfold unt at h ⊢
  split
  · rename_i h1
    rw [if_pos h1] at h
    cases h
  · rfl
theorem trans_no {n : Nat} {b : Wm.Bs} {root va acc : Int} {u : Bool} (h : (trans n b root va acc u).ok = false) : trans n b root va acc u = ⟨false, 0, 0, [], (trans n b root va acc u).r⟩ := by
  unfold trans at h ⊢
  split
  · rename_i h1
    rw [if_pos h1] at h
    split
    · rename_i h2
      rw [if_pos h2] at h
      cases h
    · rfl
  · rfl
theorem rF_large {n : Nat} {e : Int} (h : rF n e = true) (hl : has e 64 = true) : adr e % 4096 = 0 := by
  unfold rF at h
  rw [hl, if_pos rfl] at h
  exact of_decide_eq_true h
theorem find_ok {n : Nat} {b : Wm.Bs} {root va : Int} (hb : Wm.isBs b) (hr0 : 0 ≤ root) (hr : root < 8192) (hv0 : 0 ≤ va) (hv : va < 131072) (hn : n ≤ 64) (h : (find n b root va).ok = true) :
    isE (find n b root va).e ∧ (has (find n b root va).e 64 = true → adr (find n b root va).e % 4096 = 0) ∧ 0 ≤ (find n b root va).a ∧ (find n b root va).a < 4294967296 := by
  unfold find at h ⊢
  have hx := wd_e hb (fA root va)
  have hy := wd_e hb (sA (adr (wd b (fA root va))) va)
  have hxa := adr_e hx
  by_cases h1 : (has (wd b (fA root va)) 1 && rF n (wd b (fA root va))) = true
  · rw [if_pos h1] at h ⊢
    rw [Bool.and_eq_true] at h1
    by_cases h2 : has (wd b (fA root va)) 64 = true
    · rw [if_pos h2]
      exact ⟨hx, fun _ => rF_large h1.2 h2, by show 0 ≤ fA root va; unfold fA; omega, by show fA root va < 4294967296; unfold fA; omega⟩
    · rw [if_neg h2] at h ⊢
      have h3 : has (wd b (fA root va)) 64 = false := by simpa using h2
      have hp := pageB_lt (rF_page h1.2 h3)
      have h4 : (has (wd b (sA (adr (wd b (fA root va))) va)) 1 && !has (wd b (sA (adr (wd b (fA root va))) va)) 64) = true := h
      rw [Bool.and_eq_true] at h4
      have hz : 0 ≤ sA (adr (wd b (fA root va))) va ∧ sA (adr (wd b (fA root va))) va < 4294967296 := by have := hxa.1; unfold sA; omega
      exact ⟨hy, fun h5 => by have h6 := h4.2; rw [show has (wd b (sA (adr (wd b (fA root va))) va)) 64 = true from h5] at h6; exact absurd h6 (by decide), hz⟩
  · rw [if_neg h1] at h
    exact absurd h (by simp)
theorem pgOf_nn {e va : Int} (h : isE e) (_hv : 0 ≤ va) : 0 ≤ pgOf e va := by
  have := (adr_e h).1
  unfold pgOf
  split <;> omega
end Tm
/-- Where a walk by a walker ends. -/
def GotT (x : Tm.Wk) (base tB : Nat) (A : Option Addr) (n c : Nat) (w0 wc : World) (e : Ending) (w' : World) : Prop :=
  if x.ok then ∃ AS AR sc rc, e = .returned (.agg #[.int .i64 x.a, .int .i64 x.l, .slice AS x.s.length sc, .slice AR x.r.length rc]) ∧ Sl w' 3 AS x.s.length (Ws x.s) ∧ Sl w' 1 AR x.r.length (N64 x.r) ∧ (∀ ad, AS = some ad → wc.heap.size ≤ ad.block) ∧ (∀ ad, AR = some ad → wc.heap.size ≤ ad.block) ∧ Later w0 w' ∧ Kept wc.heap.size tB wc w'
  else e = .panicked Flt ∧ (∃ lo, wc.heap.size ≤ lo ∧ Wkr w' base lo tB A n c x.r) ∧ Later w0 w' ∧ Kept wc.heap.size tB wc w'
theorem walk_sz (x y z v : Value) : (Try.prog.info? 32).map (·.size) = some [x, y, z, v].length := by
  rw [show [x, y, z, v].length = 4 from rfl]; kernel_rfl
theorem img_one (a b : Int) (A : Option Addr) (n c : Nat) (B : Option Addr) (m d : Nat) : ∀ v ∈ [Value.int .i64 a, .int .i64 b, .slice A n c, .slice B m d], v.oneCell' = true := by
  intro v hv
  simp only [List.mem_cons, List.not_mem_nil, or_false] at hv
  rcases hv with rfl | rfl | rfl | rfl <;> rfl
theorem sl_nil (w : World) (k : Nat) : Sl w k none 0 [] := ⟨by simp, fun h => absurd h (by decide)⟩
set_option maxRecDepth 100000 in
theorem untranslated_any (A : Option Addr) (n c : Nat) (va : Int) (base tB : Nat) (w0 w : World) (hn : n ≤ 64) (hv0 : 0 ≤ va) (hv : va < 4294967296) (hW : Wk0 w base tB A n c) (hl : Later w0 w) :
    Calls Try.prog 30 #[.pointer (some ⟨tB, 0, none⟩), .int .u32 va] w (GotT (Tm.unt n va) base tB A n c w0 w) := by
  have H := Lib.hid fun w' => size_any A n c w' hn
  have NY := Lib.hid need_yes
  have NN := Lib.hid need_no
  have hW' := hW
  obtain ⟨_, b1⟩ := hW'
  have hlt := b1.lt
  have c1 := b1.cell (j := 0) (v := .slice A n c) rfl
  unfold Tm.unt
  by_cases h : va < (n : Int) * 128
  · have d : decide (va < (n : Int) * 128) = true := decide_eq_true h
    rw [if_pos h]
    have kk := Kept.of (lo := w.heap.size) (tB := tB) (later1 w (.cells #[.int .i64 0, .int .i64 0, .slice none 0 0, .slice none 0 0] 32))
    have lw := hl.alloc hl.size (.cells #[.int .i64 0, .int .i64 0, .slice none 0 0, .slice none 0 0] 32)
    have bR := Blk.new w 32 #[.int .i64 0, .int .i64 0, .slice none 0 0, .slice none 0 0] [.int .i64 0, .int .i64 0, .slice none 0 0, .slice none 0 0] rfl
    clear h b1
    go_enter Try.func30, Try.ntmps30
    go_wp2_with (first
      | (go_at_call 24; refine (H.out _).mono ?_; rintro r w1 ⟨rfl, l1⟩; replace bR := bR.keep l1; replace lw := Later.trans_ lw l1; replace kk := kk.later l1)
      | (go_at_call 68; (with_reducible refine (NY.out _).mono ?_); rintro e w' ⟨rfl, rfl⟩)
      | ((refine wpList_store_abs (o := ⟨none, .store 32 (.tmp 4) (.tmp 16), _, _, _, none⟩) rfl _ _ _ rfl w.heap.size 32 [.int .i64 0, .int .i64 0, .slice none 0 0, .slice none 0 0] [.int .i64 va, .int .i64 (-1), .slice none 0 0, .slice none 0 0] ?_ ?_ bR (walk_sz _ _ _ _) rfl (img_one _ _ _ _ _ _ _ _) ?_); rfl; rfl; intro w2 b2 o2))
    exact bodyPost_ret (v := .agg #[.int .i64 va, .int .i64 (-1), .slice none 0 0, .slice none 0 0]) (results_blk Try.results30 _ _ w.heap.size 32 [.int .i64 va, .int .i64 (-1), .slice none 0 0, .slice none 0 0] _ rfl b2 Try.underlying32 rfl (walk_sz _ _ _ _)) rfl
      ⟨none, none, 0, 0, rfl, sl_nil _ _, sl_nil _ _, (fun _ e => by cases e), (fun _ e => by cases e), Below.only lw o2 hl.size, kk.only o2 (Nat.le_refl _)⟩
  · have d : decide (va < (n : Int) * 128) = false := decide_eq_false h
    rw [if_neg h]
    have hW2 := hW.later (later1 w (.cells #[.int .i64 0, .int .i64 0, .slice none 0 0, .slice none 0 0] 32))
    have kk := Kept.of (lo := w.heap.size) (tB := tB) (later1 w (.cells #[.int .i64 0, .int .i64 0, .slice none 0 0, .slice none 0 0] 32))
    have lw := hl.alloc hl.size (.cells #[.int .i64 0, .int .i64 0, .slice none 0 0, .slice none 0 0] 32)
    clear h b1 hW
    go_enter Try.func30, Try.ntmps30
    go_wp2_with (first
      | (go_at_call 24; refine (H.out _).mono ?_; rintro r w1 ⟨rfl, l1⟩; replace hW2 := hW2.later l1; replace lw := Later.trans_ lw l1; replace kk := kk.later l1)
      | (go_at_call 68; (with_reducible refine (NN.out _).mono ?_); rintro e w' ⟨rfl, rfl⟩))
    exact ⟨rfl, rfl, ⟨w.heap.size, Nat.le_refl _, hW2.wkr w.heap.size (by have := hW2.1; omega)⟩, lw, kk⟩
end Go.Proofs.Ytempcbdlaoblhab
