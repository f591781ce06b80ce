/-
  THE STATEMENT CoreComputes: its walk.
-/
import Derived.Test.YtidhodalnikhlaaGreatDoorWy
import Derived.Test.YtidhodalnikhlaaGreatDoorWr
import Derived.Test.YtidhodalnikhlaaGreatDoorWt
namespace Go.Proofs.YtidhodalnikhlaaGreatDoor
open Go.RowKit Go.ChangeShapes Go.WideShapes Go.ChangeAt

theorem own4Z {w : World} {base : Nat} {e : TypeId} {n : Nat} {v : Value} {xs : List Value} (h : w.ownsRow base e 3 v n xs) : ∃ A c, v = .slice A n c ∧ Sl w 3 A n xs ∧ ∀ ad, A = some ad → base ≤ ad.block ∧ ad.block < w.heap.size := by
  have hl := h.1
  rcases h.2 with ⟨rfl, rfl⟩ | ⟨g, cap, cur, rfl, hg, hc, _, _, _, hx⟩
  · exact ⟨none, 0, rfl, ⟨hl, fun h0 => absurd h0 (by omega)⟩, fun _ e => (by cases e)⟩
  · have hb : Blk w g e cur.toList := by unfold Blk; simpa using hc
    exact ⟨_, _, rfl, sl_of hl ⟨cur, hc, hx⟩, fun ad e => (by cases e; exact ⟨hg, hb.lt⟩)⟩
theorem d4lt {w : World} {g n : Nat} {b : Wm.Bs} (h : Draft w g n b) : g < w.heap.size := by
  obtain ⟨_, t, junk, hb⟩ := h
  exact hb.lt
theorem Draft.alloc' {w : World} {g n : Nat} {b : Wm.Bs} (h : Draft w g n b) (o : Obj) : Draft (w.alloc o) g n b := h.keep (later1 _ _)
theorem er_three {op : Int} (h : 1 ≤ op ∧ op ≤ 12) : Al.Er op = 0 := by
  have : op = 1 ∨ op = 2 ∨ op = 3 ∨ op = 4 ∨ op = 5 ∨ op = 6 ∨ op = 7 ∨ op = 8 ∨ op = 9 ∨ op = 10 ∨ op = 11 ∨ op = 12 := by omega
  rcases this with rfl | rfl | rfl | rfl | rfl | rfl | rfl | rfl | rfl | rfl | rfl | rfl <;> decide
theorem add_comp (a m v : Int) (hv : v = m % 4294967296) (ha : 0 ≤ a ∧ a < 4294967296) : (a + m) % 4294967296 = Al.I 1 a v := by
  have h : Al.I 1 a v = (a + v) % 4294967296 := by
    unfold Al.I
    show Al.wI (BitVec.ofInt 32 a + BitVec.ofInt 32 v) = _
    unfold Al.wI
    rw [BitVec.toNat_add, BitVec.toNat_ofInt, BitVec.toNat_ofInt]
    omega
  rw [h, hv]
  omega
def Stp (x : Cpu) (a V pn : Int) (w : World) (e : Ending) (w' : World) : Prop :=
  ∃ (s2 : Sp) (AW : Option Addr) (cw : Nat) (AA : Option Addr) (na ca : Nat), e = .returned (.agg s2.eff.toArray) ∧ s2.dn = true ∧ (s2.tr = 0 ∧ s2.ec.pc = pn ∧ ∀ k, k < 16 → s2.ec.reg k = if (k : Int) = a ∧ k ≠ 0 then V else x.reg k) ∧ True ∧ (s2.wv = .slice AW 0 cw ∧ s2.av = .slice AA na ca ∧ True) ∧ Later w w'
theorem comp_step (x : Cpu) (i : Im.I) (g n c' : Nat) (b : Wm.Bs) (pk : Nat) (W : Int) (w : World) (hs : Sl w 128 (some ⟨g, 0, none⟩) n (U (Mm.put b pk (Mm.el 4 W)))) (hb : Wm.isBs b) (hbl : b.length = n * 128) (hn1 : 1 ≤ n) (hn64 : n ≤ 64) (hrv : x.Rv) (hc0 : 0 ≤ x.c0 ∧ x.c0 ≤ 4294967295) (hpk : x.pc = (pk : Int)) (hpc : x.pc ≤ 4294967295) (hc5 : Tm.isE x.c5) (hcn : 0 ≤ x.cn ∧ x.cn < 1099511627776) (z0 : x.c0 = 0) (h4 : x.pc % 4 = 0) (hin : x.pc + 4 ≤ (n : Int) * 128) (hwt : x.wt = false) (hhl : x.hl = false) (hRi : Im.Right i) (hcmp : Comp i) (hW : W = Im.word i) (tab : Tab w) :
    Calls Tryz.prog 13 #[.agg x.cells.toArray, .agg #[.slice (some ⟨g, 0, none⟩) n c'], .int .u32 0] w (Stp x i.a (compV x i) ((x.pc + 4) % 4294967296) w) := by
  refine (step_yes x (some ⟨g, 0, none⟩) n c' _ 0 w hs (Mm.put_bs hb (Mm.el_bs 4 W)) hn1 hn64 hrv hc0 ⟨by omega, hpc⟩ hc5 ⟨by omega, by omega⟩ ⟨hcn.1, by omega⟩ tab (Nat.lt_of_le_of_lt (Nat.zero_le _) tab.lt) (by rw [hwt, hhl]; decide)).mono ?_
  rintro e w' ⟨s2, ws2, ac2, rfl, ho, hd, hl, k1, k2, l⟩
  have hr := comp_run n b x i (({ zS with c := { x with cn := x.cn + 1, wt := false }, m := .slice (some ⟨g, 0, none⟩) n c', p := 0, dn := true, old := x } : Sp).out [] []) z0 rfl (fun _ => rfl) rfl (by omega) h4 hbl hin hRi hcmp
  rw [hpk] at hr
  rw [Int.toNat_natCast, ← hW] at hr
  rw [hpk] at ho
  rw [← ho] at hr
  obtain ⟨h1, h2, h3, h5⟩ := hr
  have hws : ws2 = [] := h2
  subst hws
  obtain ⟨AW, cw, e1, _, _⟩ := own4Z k1
  obtain ⟨AA, ca, e2, _, _⟩ := own4Z k2
  exact ⟨{ s2 with ec := s2.c }, AW, cw, AA, ac2.length, ca, rfl, hd, ⟨h1, by rw [hpk]; exact h3, h5⟩, trivial, ⟨e1, e2, trivial⟩, l⟩

end Go.Proofs.YtidhodalnikhlaaGreatDoor
