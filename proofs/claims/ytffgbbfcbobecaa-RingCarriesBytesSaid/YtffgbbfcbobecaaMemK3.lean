/-
  THE WALK OF the reference's Apply.
-/
import Derived.Test.YtffgbbfcbobecaaMemK2
namespace Go.Proofs.Ytffgbbfcbobecaa
open Go.RowKit Go.ChangeShapes Go.WideShapes Go.ChangeAt

theorem yieldsIf_load_addr {P : Program} {ops : Array Oper} {S : World → Prop} {op : Oper} {a : Act} (hw : Region.wanted op (yielded ops a.tmps) = true) (ty : TypeId) (x : Operand) (ho : op.op = .load ty x)
    (ad : Addr) (hx : a.eval x = .pointer (some ad)) (cs : List Value) (d : TypeDesc) (hS : ∀ w, S w → ∀ j v, cs[j]? = some v → w.cell? (ad.add j) = some v)
    (hu : P.underlying ty = some d) (hd : d.isRow = true) (hi : (P.info? ty).map (·.size) = some cs.length) : YieldsIf P ops S op (.agg cs.toArray) a :=
  .inl ⟨hw, fun w hw' => by
    unfold execOp
    simp only [ho, hx, Sem.run_bind, Sem.run_pure, run_loadAt_addr (P := P) w ad ty cs d (hS w hw') hu hd hi, Result.andThen_ok]⟩
theorem sl_set2 {w : World} {size n B : Nat} {A : Option Addr} {xs : List Value} (h : Sl w size A n xs) (hne : ∀ ad, A = some ad → ad.block ≠ B) (u v : Value) : Sl ((w.setCell ⟨B, 0, none⟩ u).setCell ⟨B, 1, none⟩ v) size A n xs :=
  (h.only_ne (Only.set w B 0 u) hne).only_ne (Only.set _ B 1 v) hne
end Go.Proofs.Ytffgbbfcbobecaa
