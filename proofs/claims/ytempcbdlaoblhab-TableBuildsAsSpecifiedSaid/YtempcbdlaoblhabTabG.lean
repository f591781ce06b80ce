/-
  THE WALKS OF need, read, leaf: a walker keeps what it has read; where a condition does not hold it ends with a fault's panic.
-/
import Derived.Test.YtempcbdlaoblhabTabF
import Derived.Defers
import Derived.Recover
import Derived.Laws.Pointers
namespace Go.Proofs.Ytempcbdlaoblhab
open Go.RowKit Go.ChangeShapes Go.WideShapes Go.ChangeAt

/-- A fault's panic. -/
def Flt : List PanicEntry := [{ v := .iface 133 (.agg #[]), recovered := false }]
theorem need_yes (w : World) : Calls Try.prog 68 #[.bool true] w fun e w' => e = .returned (.tuple #[]) ∧ w = w' := by
  go_enter Try.func68, Try.ntmps68
  go_wp2
  go_end0
  exact ⟨rfl, rfl⟩
theorem need_no (w : World) : Calls Try.prog 68 #[.bool false] w fun e w' => e = .panicked Flt ∧ w = w' := by
  go_enter Try.func68, Try.ntmps68
  go_wp2
  exact ⟨rfl, rfl, rfl⟩
/-- A walker over a memory, and what it has read, in a row at or beyond lo. -/
def Wkr (w : World) (base lo tB : Nat) (A : Option Addr) (n c : Nat) (xs : List Int) : Prop :=
  base ≤ tB ∧ base ≤ lo ∧ ∃ R k, Blk w tB 68 [.slice A n c, .slice R xs.length k] ∧ w.ownsRow lo 3 1 (.slice R xs.length k) xs.length (N64 xs) ∧ some tB ≠ (Value.slice R xs.length k).ownBlock
/-- .. that has read nothing. -/
def Wk0 (w : World) (base tB : Nat) (A : Option Addr) (n c : Nat) : Prop := base ≤ tB ∧ Blk w tB 68 [.slice A n c, .slice none 0 0]
theorem Wkr.later {w w' : World} {base lo tB : Nat} {A : Option Addr} {n c : Nat} {xs : List Int} (h : Wkr w base lo tB A n c xs) (l : Later w w') : Wkr w' base lo tB A n c xs := by
  obtain ⟨h0, hl, R, k, h1, h2, h3⟩ := h
  exact ⟨h0, hl, R, k, h1.keep l, own_below h2 l, h3⟩
theorem Wk0.later {w w' : World} {base tB : Nat} {A : Option Addr} {n c : Nat} (h : Wk0 w base tB A n c) (l : Later w w') : Wk0 w' base tB A n c := ⟨h.1, h.2.keep l⟩
theorem Wk0.wkr {w : World} {base tB : Nat} {A : Option Addr} {n c : Nat} (h : Wk0 w base tB A n c) (lo : Nat) (hl : base ≤ lo) : Wkr w base lo tB A n c [] :=
  ⟨h.1, hl, none, 0, h.2, World.ownsRow_nil _ _ _ _, by simp [Value.ownBlock]⟩
/-- Blocks below lo, but for tB, lie as they lay. -/
def Kept (lo tB : Nat) (w w' : World) : Prop := w.heap.size ≤ w'.heap.size ∧ ∀ B t cs, B < lo → B ≠ tB → Blk w B t cs → Blk w' B t cs
theorem Kept.trans {lo tB : Nat} {a b d : World} (h : Kept lo tB a b) (k : Kept lo tB b d) : Kept lo tB a d := ⟨Nat.le_trans h.1 k.1, fun B t cs hB hne hb => k.2 B t cs hB hne (h.2 B t cs hB hne hb)⟩
theorem Kept.later {lo tB : Nat} {a b d : World} (h : Kept lo tB a b) (k : Later b d) : Kept lo tB a d := ⟨Nat.le_trans h.1 k.size, fun B t cs hB hne hb => (h.2 B t cs hB hne hb).keep k⟩
theorem Kept.of {lo tB : Nat} {a b : World} (l : Later a b) : Kept lo tB a b := ⟨l.size, fun _ _ _ _ _ h => h.keep l⟩
theorem Kept.only {lo tB g : Nat} {a b d : World} (h : Kept lo tB a b) (o : Only g b d) (hg : lo ≤ g) : Kept lo tB a d := ⟨by rw [o.size]; exact h.1, fun B t cs hB hne hb => (h.2 B t cs hB hne hb).only o (by omega)⟩
theorem Kept.down {lo lo' tB : Nat} {a b : World} (h : Kept lo' tB a b) (hl : lo ≤ lo') : Kept lo tB a b := ⟨h.1, fun B t cs hB => h.2 B t cs (by omega)⟩
theorem i1_one (x : Int) : ∀ u ∈ [Value.int .i64 x], u.oneCell' = true := by
  intro u hu
  simp only [List.mem_cons, List.not_mem_nil, or_false] at hu
  rcases hu with rfl; rfl
theorem N64_snoc (xs : List Int) (x : Int) : N64 (xs ++ [x]) = N64 xs ++ [.int .i64 x] := by unfold N64; rw [List.map_append]; rfl
theorem own_only1 {w w' : World} {base B : Nat} {e : TypeId} {size n g c m : Nat} {xs : List Value} (h : w.ownsRow base e size (.slice (some ⟨g, 0, none⟩) n c) m xs) (k : Only B w w') (hne : g ≠ B) : w'.ownsRow base e size (.slice (some ⟨g, 0, none⟩) n c) m xs := by
  refine ⟨h.1, ?_⟩
  rcases h.2 with h2 | ⟨g2, cap, cur, h1, h2, h3, h4⟩
  · exact .inl h2
  · refine .inr ⟨g2, cap, cur, h1, h2, ?_, h4⟩
    have : g = g2 := by injection h1 with h1; injection h1 with h1; injection h1
    rw [k.2.2.2.2 g2 (by rw [← this]; exact hne)]
    exact h3
set_option maxRecDepth 100000 in
set_option maxHeartbeats 2000000 in
theorem read_any (A : Option Addr) (n c : Nat) (a : Int) (b : Wm.Bs) (base lo tB : Nat) (xs : List Int) (w0 w : World) (hb0 : base = w0.heap.size) (hs : Sl w0 128 A n (U b)) (hb : Wm.isBs b) (hn1 : 1 ≤ n) (hn : n ≤ 64) (ha : 0 ≤ a ∧ a < 4294967296) (hW : Wkr w base lo tB A n c xs) (hx : xs.length ≤ 1000) (hlo : lo ≤ w.heap.size) (hl : Later w0 w) :
    Calls Try.prog 84 #[.pointer (some ⟨tB, 0, none⟩), .int .u32 a] w fun e w' => e = .returned (.int .u32 (Tm.wd b a)) ∧ Wkr w' base lo tB A n c (xs ++ [a]) ∧ Later w0 w' ∧ Kept lo tB w w' := by
  obtain ⟨i0, hi, hz0, hz1, hz2⟩ := info_parts int_info
  have HI := Lib.hid (show _ ∧ _ ∧ _ ∧ _ from ⟨hi, hz0, hz1, hz2⟩)
  clear hi hz0 hz1 hz2
  have HL := Lib.hid fun w' (hl : Later w0 w') => tload_any A n c a b w' (hs.keep hl) hb hn1 hn ha
  obtain ⟨h0, hbl, R, k, h1, h2, h3⟩ := hW
  obtain ⟨x, hX⟩ : ∃ x, x = Tm.wd b a := ⟨_, rfl⟩
  rw [← hX] at HL ⊢
  have cm := h1.cell (j := 0) (v := .slice A n c) rfl
  have cr := h1.cell (j := 1) (v := .slice R xs.length k) rfl
  have fm := h1.frz 1
  have hlt := h1.lt
  have hbs : base ≤ w.heap.size := by have := hl.size; omega
  have HB0 := Lib.hid hb0
  have HXS := Lib.hid (N64_snoc xs a)
  have hxl : (xs ++ [a]).length = xs.length + 1 := by simp
  have HXL := Lib.hid hxl
  obtain ⟨m, hm⟩ : ∃ m, m = xs.length := ⟨_, rfl⟩
  rw [← hm] at h1 h2 h3 cr hx HXL
  have HM := Lib.hid hm
  obtain ⟨ha0, ha1⟩ := ha
  clear hX hs hb hb0 hxl hm
  go_enter Try.func84, Try.ntmps84
  go_wp2_with (first
    | (at_builtin; refine wpList_append_lies _ rfl _ _ 30 rfl lo 3 i0 (.int .i64 0) 1 8 Try.underlying30 HI.out.1 HI.out.2.1 HI.out.2.2.1 HI.out.2.2.2 rfl (by decide) _ m (N64 xs) rfl (h2.alloc _) ⟨w.heap.size, 0, none⟩ 1 1 [.int .i64 a] rfl rfl (news_blk (Blk.new w _ _ _ rfl)) (i1_one _) (by decide) (by unfold maxLen; omega) (by omega) (by simp; omega) _ rfl ?_; intro g1 cap1 w1 own1 grow1 hat1 hlt1; have b1 := (h1.alloc (.cells #[.int .i64 a] 3)).grown grow1 h3; clear cm cr fm; have cm := b1.cell (j := 0) (v := .slice A n c) rfl; have cr := b1.cell (j := 1) (v := .slice R m k) rfl; have fm := b1.frz 1; have hne : tB ≠ g1 := (fun e => hat1.elim (fun h => h3 (by rw [e]; exact h.symm)) (fun h => (by have h5 : g1 = w.heap.size + 1 := (by simpa using h); omega))); have lB : Below base w w1 := (((Below.refl base w).alloc hbs _).grown grow1 (by simp; omega) (fun j hj => Nat.le_trans hbl (h2.lt j hj).1)); have kB : ∀ B t cs, B < lo → B ≠ tB → Blk w B t cs → Blk w1 B t cs := (fun B t cs hB hne' hb' => (hb'.alloc (.cells #[.int .i64 a] 3)).grown grow1 (fun e => Nat.lt_irrefl B (Nat.lt_of_lt_of_le hB (h2.lt B e.symm).1))))
    | (go_at_call 41; have lw1 : Later w0 (w1.setCell ⟨tB, 1, none⟩ (.slice (some ⟨g1, 0, none⟩) (m + 1) cap1)) := (hl.trans (by rw [← HB0.out]; exact lB)).setCell (p := ⟨tB, 1, none⟩) (by rw [← HB0.out]; exact h0) _; refine (HL.out _ lw1).mono ?_; rintro e w2 ⟨rfl, l2⟩))
  have b2 := (b1.set 1 (.slice (some ⟨g1, 0, none⟩) (m + 1) cap1)).keep l2
  have own2 := own_below (own_only1 own1 (Only.set w1 tB 1 (.slice (some ⟨g1, 0, none⟩) (m + 1) cap1)) (fun e => hne e.symm)) l2
  go_ret
  refine ⟨rfl, ⟨h0, hbl, some ⟨g1, 0, none⟩, cap1, ?_, ?_, ?_⟩, Later.trans_ lw1 l2, ⟨Nat.le_trans lB.size (Nat.le_trans (by simp) l2.size), fun B t cs hB hne' hb' => ((kB B t cs hB hne' hb').set_other ⟨tB, 1, none⟩ _ hne').keep l2⟩⟩
  · rw [HXL.out]; exact b2
  · rw [HXL.out, HXS.out]; exact own2
  · rw [HXL.out]; intro e; exact hne (Option.some.inj e)
end Go.Proofs.Ytempcbdlaoblhab
