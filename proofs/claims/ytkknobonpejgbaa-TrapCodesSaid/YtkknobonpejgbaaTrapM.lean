/-
  PROCESSORS: bytes.Equal; the closure of Decode.
-/
import Derived.Test.YtkknobonpejgbaaTrapL
namespace Go.Proofs.Ytkknobonpejgbaa
open Go.RowKit Go.ChangeShapes Go.WideShapes Go.ChangeAt

theorem to_str {w : World} {A : Option Addr} {n : Nat} {b : Wm.Bs} (h : Sl w 1 A n (U b)) (c : Nat) : (convert 48 9 (.slice A n c)).run Try.prog w = .ok (.string (strOfNums b)) w :=
  run_str (P := Try.prog) 48 9 5 Try.underlying48 Try.underlying5 Try.underlying9 h c
theorem equal_any (A1 A2 : Option Addr) (n1 c1 n2 c2 : Nat) (a b : Wm.Bs) (w : World) (h1 : Sl w 1 A1 n1 (U a)) (h2 : Sl w 1 A2 n2 (U b)) (ha : Wm.isBs a) (hb : Wm.isBs b) :
    Calls Try.prog 38 #[.slice A1 n1 c1, .slice A2 n2 c2] w fun e w' => e = .returned (.bool (decide (a = b))) ∧ w = w' := by
  have k1 := to_str h1 c1
  have k2 := to_str h2 c2
  have he := str_eq ha hb
  go_enter Try.func38, Try.ntmps38
  go_wp2
  go_ret
  exact ⟨rfl, rfl⟩
/-- What a variable still holds of a list. -/
def Rest (w : World) (B : Nat) (l : List Int) : Prop := ∃ A c, Blk w B 60 [.slice A l.length c] ∧ Sl w 1 A l.length (N64 l) ∧ l.length ≤ c ∧ c ≤ maxLen ∧ ∀ ad, A = some ad → ad.block < B
theorem Rest.keep {w w' : World} {B : Nat} {l : List Int} (h : Rest w B l) (hl : Later w w') : Rest w' B l := by
  obtain ⟨A, c, h1, h2, h3⟩ := h
  exact ⟨A, c, h1.keep hl, h2.keep hl, h3⟩
theorem Sl.only {w w' : World} {A : Option Addr} {n g : Nat} {xs : List Value} (h : Sl w 1 A n xs) (hA : ∀ ad, A = some ad → ad.block ≠ g) (ho : Only g w w') : Sl w' 1 A n xs := by
  refine ⟨h.1, fun h0 => ?_⟩
  obtain ⟨ad, e, hb, hc⟩ := h.2 h0
  refine ⟨ad, e, by rw [ho.size]; exact hb, fun j u hu => ?_⟩
  rw [← hc j u hu]
  exact World.cell?_of_block (ho.2.2.2.2 _ (by rw [addr_add_block]; exact hA ad e))
theorem Rest.only {w w' : World} {B g : Nat} {l : List Int} (h : Rest w B l) (ho : Only g w w') (hg : B < g) : Rest w' B l := by
  obtain ⟨A, c, h1, h2, h3, h4, h5⟩ := h
  exact ⟨A, c, h1.only ho (by omega), h2.only (fun ad e => by have := h5 ad e; omega) ho, h3, h4, h5⟩
set_option maxRecDepth 100000 in
theorem next_any (B : Nat) (y : Int) (l : List Int) (w : World) (h : Rest w B (y :: l)) :
    Calls Try.prog 37 #[.pointer (some ⟨B, 0, none⟩)] w fun e w' => e = .returned (.int .i64 y) ∧ Rest w' B l ∧ Only B w w' := by
  obtain ⟨A, c, hb, hs, hc1, hc2, hA⟩ := h
  obtain ⟨ad, rfl, hbl, hcs⟩ := hs.2 (by simp)
  have e1 := hb.cell (j := 0) (v := .slice (some ad) (l.length + 1) c) rfl
  have f1 := hb.frz 0
  have hz : ad.add 0 = ad := by cases ad; simp [Addr.add]
  have e2 : w.cell? ad = some (.int .i64 y) := by rw [← hz]; exact hcs 0 _ rfl
  rw [List.length_cons] at hc1
  have hcut := hs.cut (k := 1) (cap := c) (by simp) hc1
  have hrun : ∃ A', (∀ w : World, (Instr.slice 60 (.slice (some ad) (l.length + 1) c) (some (.int .i64 1)) none none).run Try.prog w = .ok (.slice A' l.length (c - 1)) w) ∧ Sl w 1 A' l.length (N64 l) ∧ ∀ a', A' = some a' → a'.block < B := by
    refine ⟨if c = 1 then some ad else some (ad.add 1), fun w => ?_, ?_, ?_⟩
    · have h1 := run_slice_l (P := Try.prog) (w := w) 60 (some ad) (l.length + 1) c Try.underlying60 .i64 1 (by omega) (by omega)
      have h2 : (sizeOf (Try.prog.elem 60)).run Try.prog w = .ok 1 w := by kernel_rfl
      have h1 : (Instr.slice 60 (.slice (some ad) (l.length + 1) c) (some (.int .i64 1)) none none).run Try.prog w = _ := h1
      rw [h1, h2]
      simp [Result.andThen, sliced]
    · simpa [N64] using hcut
    · intro a' ha
      have := hA ad rfl
      split at ha
      · cases ha; exact this
      · cases ha; exact this
  obtain ⟨A', hsl, hs', hA'⟩ := hrun
  have hBb : ad.block < B := hA ad rfl
  clear hcut hs hcs hz
  go_enter Try.func37, Try.ntmps37
  go_wp2
  go_ret
  have ho := Only.set w B 0 (.slice A' l.length (c - 1))
  exact ⟨rfl, ⟨A', c - 1, hb.set 0 _, hs'.only (fun ad e => by have := hA' ad e; omega) ho, by omega, by omega, hA'⟩, ho⟩
end Go.Proofs.Ytkknobonpejgbaa
