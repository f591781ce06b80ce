/-
  THE WALKS OF lexer.allKinds; what each kind reads.
-/
import Derived.Test.YtjopadfkdpcjmaaDoorLexE
namespace Go.Proofs.YtjopadfkdpcjmaaDoor
open Go.RowKit Go.ChangeShapes Go.WideShapes Go.ChangeAt

def lettersS : ByteArray := ⟨#[97, 98, 99, 100, 101, 102, 103, 104, 105, 106, 107, 108, 109, 110, 111, 112, 113, 114, 115, 116, 117, 118, 119, 120, 121, 122, 65, 66, 67, 68, 69, 70, 71, 72, 73, 74, 75, 76, 77, 78, 79, 80, 81, 82, 83, 84, 85, 86, 87, 88, 89, 90, 95, 46]⟩
def kindsC : List Value := [.string lettersS, .func (.func 43) #[] #[], .string ⟨#[48, 49, 50, 51, 52, 53, 54, 55, 56, 57]⟩, .func (.func 44) #[] #[], .string ⟨#[34]⟩, .func (.func 45) #[] #[], .string ⟨#[44, 58, 40, 41, 91, 93, 123, 125, 61, 43, 45, 42, 47, 60, 62, 64, 124, 38, 33]⟩, .func (.func 46) #[] #[], .string ⟨#[10]⟩, .func (.func 47) #[] #[]]
def kinds0 : List Value := [.string ⟨#[]⟩, .nilFunc, .string ⟨#[]⟩, .nilFunc, .string ⟨#[]⟩, .nilFunc, .string ⟨#[]⟩, .nilFunc, .string ⟨#[]⟩, .nilFunc]
theorem kinds_sz : (Tryd.prog.info? 72).map (·.size) = some kindsC.length := by kernel_rfl
theorem kinds_one : ∀ v ∈ kindsC, v.oneCell' = true := by
  intro v hv
  simp only [kindsC, List.mem_cons, List.not_mem_nil, or_false] at hv
  rcases hv with rfl | rfl | rfl | rfl | rfl | rfl | rfl | rfl | rfl | rfl <;> rfl
set_option maxRecDepth 100000 in
theorem allKinds_any (w : World) : Calls Tryd.prog 26 #[] w fun e w' => e = .returned (.agg kindsC.toArray) ∧ Later w w' := by
  go_enter Tryd.func26, Tryd.ntmps26
  go_wp2_with (refine wpList_store_abs (o := ⟨none, .store 72 (.tmp 0) (.tmp 6), _, _, _, none⟩) rfl _ _ _ rfl w.heap.size 72 kinds0 kindsC rfl rfl (Blk.new w _ _ _ rfl) kinds_sz rfl kinds_one ?_; intro w3 z1 z2)
  exact bodyPost_ret (v := .agg kindsC.toArray) (results_blk Tryd.results26 _ _ w.heap.size 72 _ _ rfl z1 Tryd.underlying72 rfl kinds_sz) rfl ⟨rfl, Below.only (later1 _ _) z2 (Nat.le_refl _)⟩
end Go.Proofs.YtjopadfkdpcjmaaDoor
