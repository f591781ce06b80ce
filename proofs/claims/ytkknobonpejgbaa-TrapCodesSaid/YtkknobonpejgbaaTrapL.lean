/-
  PROCESSORS: what bytes decode to (plain facts); bytes compared; the closure of Decode.
-/
import Derived.Test.YtkknobonpejgbaaTrapK
import Derived.Test.YtkknobonpejgbaaWireLaws
namespace Go.Proofs.Ytkknobonpejgbaa
open Go.RowKit Go.ChangeShapes Go.WideShapes Go.ChangeAt

def wr32 (n : Int) : Int := IntKind.u32.wrap n
def bi (n M : Int) : Bool := !(bits .and .i64 n M == 0)
/-- The processor that has numbers, cut to their places. -/
def Cpu.ofL (l : List Int) : Cpu := ⟨wr32 (l.getD 0 0), wr32 (l.getD 1 0), wr32 (l.getD 2 0), wr32 (l.getD 3 0), wr32 (l.getD 4 0), wr32 (l.getD 5 0), wr32 (l.getD 6 0), wr32 (l.getD 7 0), wr32 (l.getD 8 0), wr32 (l.getD 9 0), wr32 (l.getD 10 0), wr32 (l.getD 11 0), wr32 (l.getD 12 0), wr32 (l.getD 13 0), wr32 (l.getD 14 0), wr32 (l.getD 15 0), wr32 (l.getD 16 0), wr32 (l.getD 17 0), wr32 (l.getD 18 0), wr32 (l.getD 19 0), wr32 (l.getD 20 0), wr32 (l.getD 21 0), wr32 (l.getD 22 0), wr32 (l.getD 23 0), wr32 (l.getD 24 0), wr32 (l.getD 25 0), bi (l.getD 26 0) 1, bi (l.getD 26 0) 2, bi (l.getD 26 0) 4, l.getD 27 0⟩
/-- What bytes decode to. -/
def okD (b : Wm.Bs) (l : List Int) (e : Int) : Bool := decide (e = 0) && (decide (l.length = 28) && (okC (Cpu.ofL l).r0 (Cpu.ofL l).c5 (Cpu.ofL l).c7 (Cpu.ofL l).c8 (Cpu.ofL l).wt (Cpu.ofL l).hl (Cpu.ofL l).cn && decide (Wm.encL Wm.encI (Cpu.ofL l).nums = b)))
/-- What the reference wants of numbers. -/
def okR (b : Wm.Bs) (l : List Int) (u : Nat) (e : Int) : Bool := decide (e = 0) && (decide (u = b.length) && (decide (l.length = 28) && (decide (∀ k ∈ List.range 27, 0 ≤ l.getD k 0 ∧ l.getD k 0 ≤ 4294967295) && (okC (Cpu.ofL l).r0 (Cpu.ofL l).c5 (Cpu.ofL l).c7 (Cpu.ofL l).c8 (Cpu.ofL l).wt (Cpu.ofL l).hl (Cpu.ofL l).cn && decide (l.getD 26 0 ≤ 7)))))
theorem wr_in (n : Int) : 0 ≤ wr32 n ∧ wr32 n ≤ 4294967295 := by unfold wr32; rw [IntKind.wrap_u32]; omega
theorem wr_eq {n : Int} (h : 0 ≤ n ∧ n ≤ 4294967295) : wr32 n = n := by unfold wr32; rw [IntKind.wrap_u32]; omega
theorem ofL_wf {l : List Int} (h : inR l) : (Cpu.ofL l).wf := by
  refine ⟨fun a ha => ?_, ?_⟩
  · unfold Cpu.ofL at ha
    simp only [List.mem_cons, List.not_mem_nil, or_false] at ha
    rcases ha with rfl | rfl | rfl | rfl | rfl | rfl | rfl | rfl | rfl | rfl | rfl | rfl | rfl | rfl | rfl | rfl | rfl | rfl | rfl | rfl | rfl | rfl | rfl | rfl | rfl | rfl <;> exact wr_in _
  · show -9223372036854775808 ≤ l.getD 27 0 ∧ l.getD 27 0 ≤ 9223372036854775807
    rw [List.getD_eq_getElem?_getD]
    cases hq : l[27]? with
    | none => simp
    | some a => exact h a (List.mem_of_getElem? hq)
theorem bi_m (a b c : Bool) : bi (b32 a 1 + b32 b 2 + b32 c 4) 1 = a ∧ bi (b32 a 1 + b32 b 2 + b32 c 4) 2 = b ∧ bi (b32 a 1 + b32 b 2 + b32 c 4) 4 = c := by
  cases a <;> cases b <;> cases c <;> decide +kernel
theorem modes_back {n : Int} (h : 0 ≤ n ∧ n ≤ 7) : b32 (bi n 1) 1 + b32 (bi n 2) 2 + b32 (bi n 4) 4 = n ∧ Tm.has n 1 = bi n 1 ∧ Tm.has n 2 = bi n 2 ∧ Tm.has n 4 = bi n 4 := by
  rcases (show n = 0 ∨ n = 1 ∨ n = 2 ∨ n = 3 ∨ n = 4 ∨ n = 5 ∨ n = 6 ∨ n = 7 by omega) with rfl | rfl | rfl | rfl | rfl | rfl | rfl | rfl <;> decide +kernel
/-- Numbers that have their places. -/
theorem nums_back {l : List Int} (hl : l.length = 28) (hr : ∀ k, k < 27 → 0 ≤ l.getD k 0 ∧ l.getD k 0 ≤ 4294967295) (h7 : l.getD 26 0 ≤ 7) : (Cpu.ofL l).nums = l := by
  apply List.ext_getElem?
  intro i
  by_cases hi : i < 28
  · have e : l[i]? = some (l.getD i 0) := by rw [List.getD_eq_getElem?_getD, List.getElem?_eq_getElem (by omega)]; rfl
    rw [e]
    rcases (show i = 0 ∨ i = 1 ∨ i = 2 ∨ i = 3 ∨ i = 4 ∨ i = 5 ∨ i = 6 ∨ i = 7 ∨ i = 8 ∨ i = 9 ∨ i = 10 ∨ i = 11 ∨ i = 12 ∨ i = 13 ∨ i = 14 ∨ i = 15 ∨ i = 16 ∨ i = 17 ∨ i = 18 ∨ i = 19 ∨ i = 20 ∨ i = 21 ∨ i = 22 ∨ i = 23 ∨ i = 24 ∨ i = 25 ∨ i = 26 ∨ i = 27 by omega) with rfl | rfl | rfl | rfl | rfl | rfl | rfl | rfl | rfl | rfl | rfl | rfl | rfl | rfl | rfl | rfl | rfl | rfl | rfl | rfl | rfl | rfl | rfl | rfl | rfl | rfl | rfl | rfl
    · exact congrArg some (wr_eq (hr 0 (by omega)))
    · exact congrArg some (wr_eq (hr 1 (by omega)))
    · exact congrArg some (wr_eq (hr 2 (by omega)))
    · exact congrArg some (wr_eq (hr 3 (by omega)))
    · exact congrArg some (wr_eq (hr 4 (by omega)))
    · exact congrArg some (wr_eq (hr 5 (by omega)))
    · exact congrArg some (wr_eq (hr 6 (by omega)))
    · exact congrArg some (wr_eq (hr 7 (by omega)))
    · exact congrArg some (wr_eq (hr 8 (by omega)))
    · exact congrArg some (wr_eq (hr 9 (by omega)))
    · exact congrArg some (wr_eq (hr 10 (by omega)))
    · exact congrArg some (wr_eq (hr 11 (by omega)))
    · exact congrArg some (wr_eq (hr 12 (by omega)))
    · exact congrArg some (wr_eq (hr 13 (by omega)))
    · exact congrArg some (wr_eq (hr 14 (by omega)))
    · exact congrArg some (wr_eq (hr 15 (by omega)))
    · exact congrArg some (wr_eq (hr 16 (by omega)))
    · exact congrArg some (wr_eq (hr 17 (by omega)))
    · exact congrArg some (wr_eq (hr 18 (by omega)))
    · exact congrArg some (wr_eq (hr 19 (by omega)))
    · exact congrArg some (wr_eq (hr 20 (by omega)))
    · exact congrArg some (wr_eq (hr 21 (by omega)))
    · exact congrArg some (wr_eq (hr 22 (by omega)))
    · exact congrArg some (wr_eq (hr 23 (by omega)))
    · exact congrArg some (wr_eq (hr 24 (by omega)))
    · exact congrArg some (wr_eq (hr 25 (by omega)))
    · exact congrArg some (modes_back ⟨(hr 26 (by omega)).1, h7⟩).1
    · rfl
  · rw [List.getElem?_eq_none (by show 28 ≤ i; omega), List.getElem?_eq_none (by omega)]
theorem ofL_nums {x : Cpu} (hx : x.wf) : Cpu.ofL x.nums = x := by
  have h := fun a (ha : a ∈ [x.pc, x.r0, x.r1, x.r2, x.r3, x.r4, x.r5, x.r6, x.r7, x.r8, x.r9, x.r10, x.r11, x.r12, x.r13, x.r14, x.r15, x.c0, x.c1, x.c2, x.c3, x.c4, x.c5, x.c6, x.c7, x.c8]) => wr_eq (hx.1 a ha)
  have hb := bi_m x.u x.wt x.hl
  show (⟨wr32 x.pc, wr32 x.r0, wr32 x.r1, wr32 x.r2, wr32 x.r3, wr32 x.r4, wr32 x.r5, wr32 x.r6, wr32 x.r7, wr32 x.r8, wr32 x.r9, wr32 x.r10, wr32 x.r11, wr32 x.r12, wr32 x.r13, wr32 x.r14, wr32 x.r15, wr32 x.c0, wr32 x.c1, wr32 x.c2, wr32 x.c3, wr32 x.c4, wr32 x.c5, wr32 x.c6, wr32 x.c7, wr32 x.c8, bi x.modes 1, bi x.modes 2, bi x.modes 4, x.cn⟩ : Cpu) = x
  unfold Cpu.modes
  rw [hb.1, hb.2.1, hb.2.2]
  rw [h x.pc (by simp), h x.r0 (by simp), h x.r1 (by simp), h x.r2 (by simp), h x.r3 (by simp), h x.r4 (by simp), h x.r5 (by simp), h x.r6 (by simp), h x.r7 (by simp), h x.r8 (by simp), h x.r9 (by simp), h x.r10 (by simp), h x.r11 (by simp), h x.r12 (by simp), h x.r13 (by simp), h x.r14 (by simp), h x.r15 (by simp), h x.c0 (by simp), h x.c1 (by simp), h x.c2 (by simp), h x.c3 (by simp), h x.c4 (by simp), h x.c5 (by simp), h x.c6 (by simp), h x.c7 (by simp), h x.c8 (by simp)]
theorem decE_in : ∀ (n : Nat) (b : Wm.Bs), Wm.isBs b → inR (Wm.decE Wm.decI n b).1
  | 0, _, _ => fun a ha => by simp [Wm.decE] at ha
  | n + 1, b, hb => by
    intro a ha
    unfold Wm.decE at ha
    obtain ⟨x, k, e, hr⟩ : ∃ x k e, Wm.decI b = (x, k, e) := ⟨_, _, _, rfl⟩
    rw [hr] at ha
    simp only at ha
    split at ha
    · simp at ha
    · split at ha
      · simp at ha
      · rcases List.mem_cons.1 ha with rfl | ha
        · rcases Wm.decI_ok hb hr with ⟨_, _, _, _, h1, h2, _⟩ | ⟨h, _⟩
          · exact ⟨h1, h2⟩
          · omega
        · exact decE_in n _ (fun y hy => hb y (List.mem_of_mem_drop hy)) a ha
theorem decL_in {b : Wm.Bs} (hb : Wm.isBs b) : inR (Wm.decL Wm.decI 1 b).1 := by
  intro a ha
  unfold Wm.decL at ha
  split at ha
  · simp at ha
  · split at ha
    · simp at ha
    · exact decE_in _ _ (fun y hy => hb y (List.mem_of_mem_drop hy)) a ha
/-- The two ways to decode agree. -/
theorem ok_same {b : Wm.Bs} {l : List Int} {u : Nat} {e : Int} (hb : Wm.isBs b) (h : Wm.decL Wm.decI 1 b = (l, u, e)) : okR b l u e = okD b l e := by
  have hin : inR l := by have := decL_in hb; rw [h] at this; exact this
  rw [Bool.eq_iff_iff]
  unfold okR okD
  simp only [Bool.and_eq_true, decide_eq_true_eq]
  constructor
  · rintro ⟨rfl, hu, hl, hr, hv, h7⟩
    refine ⟨rfl, hl, hv, ?_⟩
    rw [nums_back hl (fun k hk => hr k (List.mem_range.2 hk)) h7]
    have := (Wm.decL_can Wm.decI_can (by omega) hb h).2
    rw [← this, hu, List.take_length]
  · rintro ⟨rfl, hl, hv, hn⟩
    have hw := ofL_wf hin
    have h2 := Wm.ints_back (Cpu.ofL l).nums [] (nums_in hw) (by show (28 : Nat) ≤ _; omega)
    rw [List.append_nil, hn, h] at h2
    simp only [Prod.mk.injEq] at h2
    obtain ⟨e1, e2, _⟩ := h2
    have hm := modes_in (Cpu.ofL l)
    refine ⟨rfl, e2, hl, ?_, hv, ?_⟩
    · intro k hk
      replace hk := List.mem_range.1 hk
      rw [e1]
      by_cases h26 : k = 26
      · subst h26
        show 0 ≤ (Cpu.ofL l).modes ∧ (Cpu.ofL l).modes ≤ 4294967295
        omega
      · have : (Cpu.ofL l).nums.getD k 0 ∈ [(Cpu.ofL l).pc, (Cpu.ofL l).r0, (Cpu.ofL l).r1, (Cpu.ofL l).r2, (Cpu.ofL l).r3, (Cpu.ofL l).r4, (Cpu.ofL l).r5, (Cpu.ofL l).r6, (Cpu.ofL l).r7, (Cpu.ofL l).r8, (Cpu.ofL l).r9, (Cpu.ofL l).r10, (Cpu.ofL l).r11, (Cpu.ofL l).r12, (Cpu.ofL l).r13, (Cpu.ofL l).r14, (Cpu.ofL l).r15, (Cpu.ofL l).c0, (Cpu.ofL l).c1, (Cpu.ofL l).c2, (Cpu.ofL l).c3, (Cpu.ofL l).c4, (Cpu.ofL l).c5, (Cpu.ofL l).c6, (Cpu.ofL l).c7, (Cpu.ofL l).c8] := by
          rcases (show k = 0 ∨ k = 1 ∨ k = 2 ∨ k = 3 ∨ k = 4 ∨ k = 5 ∨ k = 6 ∨ k = 7 ∨ k = 8 ∨ k = 9 ∨ k = 10 ∨ k = 11 ∨ k = 12 ∨ k = 13 ∨ k = 14 ∨ k = 15 ∨ k = 16 ∨ k = 17 ∨ k = 18 ∨ k = 19 ∨ k = 20 ∨ k = 21 ∨ k = 22 ∨ k = 23 ∨ k = 24 ∨ k = 25 by omega) with rfl | rfl | rfl | rfl | rfl | rfl | rfl | rfl | rfl | rfl | rfl | rfl | rfl | rfl | rfl | rfl | rfl | rfl | rfl | rfl | rfl | rfl | rfl | rfl | rfl | rfl <;> simp [Cpu.nums]
        exact hw.1 _ this
    · rw [e1]
      exact hm.2
theorem okD_back {x : Cpu} (hx : x.wf) (hv : okC x.r0 x.c5 x.c7 x.c8 x.wt x.hl x.cn = true) : okD (Wm.encL Wm.encI x.nums) x.nums 0 = true := by
  unfold okD
  rw [ofL_nums hx, hv, decide_eq_true rfl, decide_eq_true rfl]
  rfl
theorem str_inj {a b : Wm.Bs} (ha : Wm.isBs a) (hb : Wm.isBs b) (h : strOfNums a = strOfNums b) : a = b := by
  have h1 := congrArg (fun s => s.data.toList) h
  rw [strOfNums_data, strOfNums_data] at h1
  have key : ∀ c : Wm.Bs, Wm.isBs c → (c.map fun n => UInt8.ofNat n.toNat).map (fun u => (u.toNat : Int)) = c := by
    intro c hc
    rw [List.map_map]
    conv => rhs; rw [← List.map_id c]
    apply List.map_congr_left
    intro n hn
    have := hc n hn
    show ((UInt8.ofNat n.toNat).toNat : Int) = n
    rw [UInt8.toNat_ofNat']
    omega
  rw [← key a ha, ← key b hb, h1]
theorem toList_eqb (x y : ByteArray) : (x.toList == y.toList) = decide (x = y) := by
  by_cases h : x = y
  · subst h; simp
  · rw [decide_eq_false h, beq_eq_false_iff_ne]
    intro e
    apply h
    rw [ByteArray.toList_eq, ByteArray.toList_eq] at e
    exact ByteArray.ext (Array.toList_inj.1 e)
theorem str_eq {a b : Wm.Bs} (ha : Wm.isBs a) (hb : Wm.isBs b) : ((strOfNums a).toList == (strOfNums b).toList) = decide (a = b) := by
  rw [toList_eqb, decide_eq_decide]
  exact ⟨str_inj ha hb, fun h => by rw [h]⟩
end Go.Proofs.Ytkknobonpejgbaa
