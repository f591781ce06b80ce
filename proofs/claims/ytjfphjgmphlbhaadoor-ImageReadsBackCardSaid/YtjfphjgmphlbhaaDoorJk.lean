/-
  THE WALKS OF isEntry, inOrder, Check; of the reference's Enters.
-/
import Derived.Test.YtjfphjgmphlbhaaDoorJa
import Derived.Test.YtjfphjgmphlbhaaDoorJh
import Derived.Test.YtjfphjgmphlbhaaDoorJj
namespace Go.Proofs.YtjfphjgmphlbhaaDoor
open Go.RowKit Go.ChangeShapes Go.WideShapes Go.ChangeAt

set_option maxRecDepth 100000 in
/-- Segments as cells. -/
def Gc (x : Im.Seg) : List Value := [.int .i64 x.1, .string x.2]
set_option maxRecDepth 100000 in
def Gs (L : List Im.Seg) : List Value := L.flatMap Gc
set_option maxRecDepth 100000 in
theorem Gs_len (L : List Im.Seg) : (Gs L).length = L.length * 2 := by
  unfold Gs
  induction L with
  | nil => rfl
  | cons x r ih => rw [List.flatMap_cons, List.length_append, ih, List.length_cons]; show 2 + r.length * 2 = _; omega
set_option maxRecDepth 100000 in
theorem Gs_at : ∀ (L : List Im.Seg) (i : Nat) (hi : i < L.length) (j : Nat), j < 2 → (Gs L)[i * 2 + j]? = (Gc L[i])[j]? := by
  intro L
  unfold Gs
  induction L with
  | nil => intro i hi; simp at hi
  | cons x r ih =>
    intro i hi j hj
    rw [List.flatMap_cons]
    cases i with
    | zero => rw [List.getElem?_append_left (by show _ < 2; omega), Nat.zero_mul, Nat.zero_add]; rfl
    | succ i =>
      rw [List.getElem?_append_right (by show 2 ≤ _; omega)]
      rw [show (i + 1) * 2 + j - (Gc x).length = i * 2 + j by show (i + 1) * 2 + j - 2 = _; omega]
      rw [ih i (by simpa using hi) j hj]; rfl
set_option maxRecDepth 100000 in
theorem Sl.seg {w : World} {m : Nat} {ad : Addr} {L : List Im.Seg} (h : Sl w 2 (some ad) m (Gs L)) {k : Nat} (hk : k < L.length) :
    ∀ j u, [Value.int .i64 L[k].1, .string L[k].2][j]? = some u → w.cell? ((ad.add (k * 2)).add j) = some u := by
  intro j u hu
  have hm := h.1
  rw [Gs_len] at hm
  obtain ⟨_, e, _, hc⟩ := h.2 (by omega)
  cases e
  rw [addr_add_add]
  apply hc
  have hj : j < 2 := by
    rcases Nat.lt_or_ge j 2 with h | h
    · exact h
    · rw [List.getElem?_eq_none (by simpa using h)] at hu; cases hu
  rw [Gs_at L k hk j hj]
  exact hu
set_option maxRecDepth 100000 in
theorem Sl.seglen {w : World} {m : Nat} {A : Option Addr} {L : List Im.Seg} (h : Sl w 2 A m (Gs L)) : L.length = m := by
  have hm := h.1
  rw [Gs_len] at hm
  omega
set_option maxRecDepth 100000 in
def inSeg (L : List Im.Seg) : Prop := ∀ x ∈ L, -9223372036854775808 ≤ x.1 ∧ x.1 ≤ 9223372036854775807 ∧ x.2.size ≤ 9223372036854775807
set_option maxRecDepth 100000 in
theorem seg_sz (x y : Value) : (Tryd.prog.info? 47).map (·.size) = some [x, y].length := by
  show _ = some 2
  kernel_rfl

set_option maxRecDepth 100000 in
theorem neq_false' {a b : Int} (h : a ≠ b) : (a == b) = false := by simpa using h
set_option maxRecDepth 100000 in
theorem isEntry_any (a s : Int) (w : World) : Calls Tryd.prog 28 #[.int .i64 a, .int .i64 s] w fun e w' => e = .returned (.bool (Im.entry a s)) ∧ w = w' := by
  unfold Im.entry
  by_cases h0 : 0 ≤ a
  · have ht : a.tmod 4 = a % 4 := Int.tmod_eq_emod_of_nonneg h0
    have hw : IntKind.i64.wrap (a % 4) = a % 4 := wraps_i64 _ (by omega) (by omega)
    by_cases h1 : a < s
    · go_enter Tryd.func28, Tryd.ntmps28
      go_wp2
      go_ret
      refine ⟨ret_bool ?_, rfl⟩
      by_cases h2 : a % 4 = 0 <;> simp [h0, h1, h2]
    · go_enter Tryd.func28, Tryd.ntmps28
      go_wp2
      go_ret
      refine ⟨ret_bool ?_, rfl⟩
      rw [decide_eq_false (by omega)]
      rfl
  · go_enter Tryd.func28, Tryd.ntmps28
    go_wp2
    go_ret
    refine ⟨ret_bool ?_, rfl⟩
    rw [decide_eq_false (by omega)]
    rfl

set_option maxRecDepth 100000 in
set_option maxHeartbeats 2000000 in
theorem inOrder_any (A : Option Addr) (n c : Nat) (L : List Im.Seg) (M : Int) (w : World) (hs : Sl w 2 A n (Gs L)) (hL : inSeg L) (hn : n ≤ maxLen) (hM : 0 ≤ M ∧ M ≤ 8192) :
    Calls Tryd.prog 43 #[.slice A n c, .int .i64 M] w fun e w' => e = .returned (.bool (Im.ord M 0 L)) ∧ Later w w' := by
  unfold maxLen at hn
  have HLN := Lib.hid hs.seglen
  have HL := Lib.hid hL
  obtain ⟨R, hR⟩ : ∃ R, R = Im.ord M 0 L := ⟨_, rfl⟩
  rw [← hR]
  have HR := Lib.hid hR
  clear hL hR
  go_enter Tryd.func43, Tryd.ntmps43
  go_wp2
  go_loopw [5, 11] (fun ev i wr => ∃ (k : Nat) (en : Int), k ≤ n ∧ i = .int .i64 (k : Int) ∧ ev = .int .i64 en ∧ 0 ≤ en ∧ en ≤ 8192 ∧ Hid (R = Im.ord M en (L.drop k)) ∧ Sl wr 2 A n (Gs L) ∧ Later w wr) (fun _ i _ => n - (intOf i).toNat)
  case atStart => exact ⟨0, 0, Nat.zero_le _, rfl, rfl, by omega, by omega, Lib.hid HR.out, hs, later0 _⟩
  case round =>
    clear hs
    rename_i wr
    obtain ⟨k, en, hk, rfl, rfl, e0, e1, HO, hs, lr⟩ := hrel
    by_cases hlt : k < n
    · have hkl : k < L.length := by rw [HLN.out]; exact hlt
      obtain ⟨ad, rfl⟩ := hs.addr (by omega)
      have HC := Lib.hid (hs.seg hkl)
      obtain ⟨h1, h2, h3⟩ := HL.out _ (List.getElem_mem hkl)
      have ho := HO.out
      rw [List.drop_eq_getElem_cons hkl] at ho
      obtain ⟨a, ha⟩ : ∃ a, a = L[k].1 := ⟨_, rfl⟩
      obtain ⟨s, hs'⟩ : ∃ s, s = L[k].2 := ⟨_, rfl⟩
      rw [← ha] at HC h1 h2
      rw [← hs'] at HC h3
      have kn : (k : Int) < (n : Int) := by omega
      obtain ⟨z, hz⟩ : ∃ z : Int, z = (s.size : Int) := ⟨_, rfl⟩
      by_cases hg : 0 < s.size ∧ en ≤ a ∧ a + s.size ≤ M
      · have HX : Hid (R = Im.ord M (a + s.size) (L.drop (k + 1))) := Lib.hid (ho.trans (by
          rw [Im.ord, ← ha, ← hs', decide_eq_true hg, Bool.true_and]))
        clear ho ha hs'
        obtain ⟨g1, g2, g3⟩ := hg
        have f1 : ((s.size : Int) == 0) = false := neq_false' (by omega)
        have f2 : decide (a < en) = false := decide_eq_false (by omega)
        have f3 : decide (M - (s.size : Int) < a) = false := decide_eq_false (by omega)
        go_wp2_with (first
          | ((with_reducible refine wpList_load_addr (o := ⟨some 14, .load 47 (.tmp 13), _, _, _, none⟩) rfl _ _ rfl (ad.add (k * 2)) [.int .i64 a, .string s] _ ?_ HC.out Tryd.underlying47 rfl (seg_sz _ _) ?_); rfl))
        go_roundw
        case rel => exact ⟨k + 1, _, by omega, by go_num, rfl, by omega, by omega, HX, hs.keep (later1 _ _), Later.trans_ lr (later1 _ _)⟩
        case measure => simp [intOf]; omega
      · have HX : Hid (R = false) := Lib.hid (ho.trans (by
          rw [Im.ord, ← ha, ← hs', decide_eq_false hg, Bool.false_and]))
        clear ho ha hs'
        by_cases g1 : 0 < s.size
        · by_cases g2 : en ≤ a
          · have g3 : ¬ (a + s.size ≤ M) := fun h => hg ⟨g1, g2, h⟩
            clear hg
            have f1 : ((s.size : Int) == 0) = false := neq_false' (by omega)
            have f2 : decide (a < en) = false := decide_eq_false (by omega)
            have f3 : decide (M - (s.size : Int) < a) = true := decide_eq_true (by omega)
            go_wp2_with (first
              | ((with_reducible refine wpList_load_addr (o := ⟨some 14, .load 47 (.tmp 13), _, _, _, none⟩) rfl _ _ rfl (ad.add (k * 2)) [.int .i64 a, .string s] _ ?_ HC.out Tryd.underlying47 rfl (seg_sz _ _) ?_); rfl))
            go_ret
            exact ⟨by rw [HX.out]; rfl, Later.trans_ lr (later1 _ _)⟩
          · clear hg
            have f1 : ((s.size : Int) == 0) = false := neq_false' (by omega)
            have f2 : decide (a < en) = true := decide_eq_true (by omega)
            go_wp2_with (first
              | ((with_reducible refine wpList_load_addr (o := ⟨some 14, .load 47 (.tmp 13), _, _, _, none⟩) rfl _ _ rfl (ad.add (k * 2)) [.int .i64 a, .string s] _ ?_ HC.out Tryd.underlying47 rfl (seg_sz _ _) ?_); rfl))
            go_ret
            exact ⟨by rw [HX.out]; rfl, Later.trans_ lr (later1 _ _)⟩
        · clear hg
          have f1 : ((s.size : Int) == 0) = true := beq_iff_eq.2 (by omega)
          go_wp2_with (first
            | ((with_reducible refine wpList_load_addr (o := ⟨some 14, .load 47 (.tmp 13), _, _, _, none⟩) rfl _ _ rfl (ad.add (k * 2)) [.int .i64 a, .string s] _ ?_ HC.out Tryd.underlying47 rfl (seg_sz _ _) ?_); rfl))
          go_ret
          exact ⟨by rw [HX.out]; rfl, Later.trans_ lr (later1 _ _)⟩
    · obtain rfl : k = n := by omega
      have ho := HO.out
      rw [List.drop_eq_nil_of_le (by rw [HLN.out]; exact Nat.le_refl _)] at ho
      have HX : Hid (R = true) := Lib.hid ho
      have nlt : ¬ ((k : Int) < (k : Int)) := by omega
      clear ho
      go_wp2
      go_ret
      exact ⟨by rw [HX.out]; rfl, lr⟩
end Go.Proofs.YtjfphjgmphlbhaaDoor

/-
  THE WALK OF image.Encode.
-/
namespace Go.Proofs.YtjfphjgmphlbhaaDoor
open Go.RowKit Go.ChangeShapes Go.WideShapes Go.ChangeAt

set_option maxRecDepth 100000 in
theorem sep_ne {v1 v2 : Value} (h : ∀ g, v1.ownBlock = some g → v2.ownBlock ≠ some g) : v2.ownBlock = none ∨ v2.ownBlock ≠ v1.ownBlock := by
  cases e : v1.ownBlock with
  | none => cases v2.ownBlock <;> simp
  | some g => exact .inr (h g e)
set_option maxRecDepth 100000 in
theorem sep_ne' {v1 v2 : Value} (h : ∀ g, v1.ownBlock = some g → v2.ownBlock ≠ some g) : v1.ownBlock = none ∨ v1.ownBlock ≠ v2.ownBlock := by
  cases e : v1.ownBlock with
  | none => exact .inl rfl
  | some g => exact .inr (fun e2 => h g e e2.symm)
set_option maxRecDepth 100000 in
theorem own_base {w : World} {b b' : Nat} {e : TypeId} {size n : Nat} {v : Value} {xs : List Value} (h : w.ownsRow b e size v n xs) (hb : b' ≤ b) : w.ownsRow b' e size v n xs := by
  refine ⟨h.1, ?_⟩
  rcases h.2 with h2 | ⟨g, cap, cur, h1, h2, h3⟩
  · exact .inl h2
  · exact .inr ⟨g, cap, cur, h1, Nat.le_trans hb h2, h3⟩
set_option maxRecDepth 100000 in
theorem Later.alloc_size {u w : World} (h : Later u w) (o : Obj) : u.heap.size ≤ (w.alloc o).heap.size := (h.alloc h.size o).size
set_option maxRecDepth 100000 in
theorem Blk.grown {w w' : World} {B : Nat} {t : TypeId} {cs : List Value} {row : Option Nat} (h : Blk w B t cs) (g : w.grownBy w' row) (hne : some B ≠ row) : Blk w' B t cs := by
  unfold Blk; rw [g.block B h.lt hne]; exact h
set_option maxRecDepth 100000 in
theorem N64_app (a b : List Int) : N64 (a ++ b) = N64 a ++ N64 b := by unfold N64; rw [List.map_append]
set_option maxRecDepth 100000 in
theorem Strs_app (a b : List ByteArray) : Strs (a ++ b) = Strs a ++ Strs b := by unfold Strs; rw [List.map_append]
set_option maxRecDepth 100000 in
theorem news_blk {w : World} {B : Nat} {t : TypeId} {cs : List Value} (h : Blk w B t cs) : ∀ j u, cs[j]? = some u → w.cell? ((⟨B, 0, none⟩ : Addr).add j) = some u := by
  intro j u hu
  rw [Addr.add_mid, Nat.zero_add]
  exact h.cell hu
set_option maxRecDepth 100000 in
theorem blk_sl1 {w : World} {C N : Nat} {b : Wm.Bs} {t : TypeId} (h : Blk w C t (U b)) (hl : b.length = N) : Sl w 1 (some ⟨C, 0, none⟩) N (U b) := by
  have := h.sl 0 N (by rw [U_length]; omega)
  rwa [List.drop_zero, List.take_of_length_le (by rw [U_length]; omega)] at this
set_option maxRecDepth 100000 in
/-- The texts of an encoding. -/
def secS (d : Wm.Bs) (m : Nat) : List ByteArray := (List.range m).map fun k => strOfNums (Im.page d k)
set_option maxRecDepth 100000 in
def txS (L : List Im.Seg) (d : Wm.Bs) (m : Nat) : List ByteArray := L.map (·.2) ++ secS d m
set_option maxRecDepth 100000 in
theorem secS_succ (d : Wm.Bs) (k : Nat) : secS d (k + 1) = secS d k ++ [strOfNums (Im.page d k)] := by unfold secS; rw [List.range_succ, List.map_append]; rfl
set_option maxRecDepth 100000 in
theorem secS_len (d : Wm.Bs) (k : Nat) : (secS d k).length = k := by unfold secS; simp
set_option maxRecDepth 100000 in
theorem txS_len (L : List Im.Seg) (d : Wm.Bs) (k : Nat) : (txS L d k).length = L.length + k := by unfold txS; rw [List.length_append, List.length_map, secS_len]
set_option maxRecDepth 100000 in
theorem map_take_succ {α β : Type} (f : α → β) (L : List α) (k : Nat) (h : k < L.length) : (L.take (k + 1)).map f = (L.take k).map f ++ [f L[k]] := by
  rw [List.take_succ_eq_append_getElem h, List.map_append]; rfl
set_option maxRecDepth 100000 in
/-- The encoding, of the texts as strings. -/
def encS (en p : Int) (L : List Im.Seg) (d : Wm.Bs) (m : Nat) : Wm.Bs := Wm.encL Wm.encI (Im.nums en p L m) ++ Wm.encL encT (txS L d m)
set_option maxRecDepth 100000 in
theorem Sl.page {w : World} {m : Nat} {ad : Addr} {d : Wm.Bs} (h : Sl w 128 (some ad) m (U d)) {k : Nat} (hk : k < m) :
    ∀ j u, (U (Im.page d k))[j]? = some u → w.cell? ((ad.add (k * 128)).add j) = some u := by
  intro j u hu
  obtain ⟨_, e, _, hc⟩ := h.2 (by omega)
  cases e
  rw [addr_add_add]
  apply hc
  unfold Im.page U at hu
  rw [List.map_take, List.map_drop, List.getElem?_take] at hu
  split at hu
  · rw [List.getElem?_drop] at hu; exact hu
  · cases hu
set_option maxRecDepth 100000 in
theorem page128 {w : World} {m : Nat} {A : Option Addr} {d : Wm.Bs} (h : Sl w 128 A m (U d)) {k : Nat} (hk : k < m) : (Im.page d k).length = 128 := by
  have := h.1
  rw [U_length] at this
  exact Im.page_len this hk
set_option maxRecDepth 100000 in
theorem page_z {x : Wm.Bs} (h : x.length = 128) : Tryd.zeroCells76.toList.length = (U x).length := by rw [U_length, h]; rfl

set_option maxRecDepth 100000 in
set_option maxHeartbeats 4000000 in
theorem encode_any (en p : Int) (A : Option Addr) (n c : Nat) (L : List Im.Seg) (B : Option Addr) (m cd : Nat) (d : Wm.Bs) (w : World) (hs : Sl w 2 A n (Gs L)) (hd : Sl w 128 B m (U d)) (hL : inSeg L) (hn : n ≤ 1000000) (hm : m ≤ 1000000) (hen : -9223372036854775808 ≤ en ∧ en ≤ 9223372036854775807) (hp : -9223372036854775808 ≤ p ∧ p ≤ 9223372036854775807) (hM : (encS en p L d m).length ≤ 140737488355328) :
    Calls Tryd.prog 20 #[.agg #[.int .i64 en, .int .i64 p, .slice A n c, .slice B m cd]] w (Made (encS en p L d m) w) := by
  have HLN := Lib.hid hs.seglen
  obtain ⟨nI, hIi, hIz, hIs, hIb⟩ := info_parts int_info
  obtain ⟨nS, hSi, hSz, hSs, hSb⟩ := info_parts str_info
  obtain ⟨nU, hUi, hUz, hUs, hUb⟩ := info_parts u8_info
  have HI := Lib.hid (show _ ∧ _ ∧ _ ∧ _ from ⟨hIi, hIz, hIs, hIb⟩)
  have HS := Lib.hid (show _ ∧ _ ∧ _ ∧ _ from ⟨hSi, hSz, hSs, hSb⟩)
  have HU := Lib.hid (show _ ∧ _ ∧ _ ∧ _ from ⟨hUi, hUz, hUs, hUb⟩)
  have hM1 : (Wm.encL Wm.encI (Im.nums en p L m)).length ≤ 140737488355328 ∧ (Wm.encL encT (txS L d m)).length ≤ 140737488355328 := by unfold encS at hM; rw [List.length_append] at hM; omega
  have hLb : L.length = n := HLN.out
  have HE1 := Lib.hid fun (A' : Option Addr) (c' : Nat) (w' : World) (h : Sl w' 1 A' (3 + n) (N64 (Im.nums en p L m))) => wireInts_any A' (3 + n) c' (Im.nums en p L m) w' h (fun x hx => by
    unfold Im.nums at hx
    rcases List.mem_append.1 hx with hx | hx
    · simp only [List.mem_cons, List.not_mem_nil, or_false] at hx
      rcases hx with rfl | rfl | rfl
      · exact hen
      · exact hp
      · omega
    · obtain ⟨y, hy, rfl⟩ := List.mem_map.1 hx
      have := hL y hy
      omega) (by unfold maxLen; omega) hM1.1
  have HE2 := Lib.hid fun (A' : Option Addr) (c' : Nat) (w' : World) (h : Sl w' 1 A' (n + m) (Strs (txS L d m))) => wireStrs_any A' (n + m) c' (txS L d m) w' h (fun x hx => by
    unfold txS at hx
    rcases List.mem_append.1 hx with hx | hx
    · obtain ⟨y, hy, rfl⟩ := List.mem_map.1 hx
      exact (hL y hy).2.2
    · unfold secS at hx
      obtain ⟨k, hk, rfl⟩ := List.mem_map.1 hx
      rw [Im.strN_size]
      have hk2 := List.mem_range.1 hk
      rw [page128 hd hk2]
      omega) (by unfold maxLen; omega) hM1.2
  have HM := Lib.hid hM
  obtain ⟨E1, hE1⟩ : ∃ E, E = Wm.encL Wm.encI (Im.nums en p L m) := ⟨_, rfl⟩
  obtain ⟨E2, hE2⟩ : ∃ E, E = Wm.encL encT (txS L d m) := ⟨_, rfl⟩
  unfold encS at HM ⊢
  rw [← hE1] at HE1 HM ⊢
  rw [← hE2] at HE2 HM ⊢
  clear hE1 hE2 hM1 hM hL hen hp hIi hIz hIs hIb hSi hSz hSs hSb hUi hUz hUs hUb hLb
  have HSS := Lib.hid fun w' (hl : Later w w') ad (e : A = some ad) => (e ▸ hs.keep hl : Sl w' 2 (some ad) n (Gs L))
  have l0 := later1 w (.cells #[.int .i64 en, .int .i64 p, .slice A n c, .slice B m cd] 29)
  have b1 := Blk.new w 29 #[.int .i64 en, .int .i64 p, .slice A n c, .slice B m cd] [.int .i64 en, .int .i64 p, .slice A n c, .slice B m cd] rfl
  go_enter Tryd.func20, Tryd.ntmps20
  go_wp2
  have hr0 := World.ownsRow_lit (base := w.heap.size) (e := 3) (size := 1) (w.alloc (.cells #[.int .i64 en, .int .i64 p, .slice A n c, .slice B m cd] 29)) #[.int .i64 en, .int .i64 p, .int .i64 (m : Int)] 3 l0.size (by decide) rfl
  replace b1 := b1.alloc (.cells #[.int .i64 en, .int .i64 p, .int .i64 (m : Int)] 3)
  have l1 := l0.alloc l0.size (.cells #[.int .i64 en, .int .i64 p, .int .i64 (m : Int)] 3)
  rw [World.size_alloc] at hr0
  go_loopw [3, 4, 20] (fun v3 v4 i wr => ∃ k : Nat, k ≤ n ∧ i = .int .i64 (k : Int) ∧ wr.ownsRow w.heap.size 3 1 v3 (3 + k) (N64 (Im.nums en p (L.take k) m)) ∧ wr.ownsRow w.heap.size 9 1 v4 k (Strs ((L.take k).map (·.2))) ∧ Hid (∀ g, v3.ownBlock = some g → v4.ownBlock ≠ some g) ∧ Hid ((∀ g, v3.ownBlock = some g → w.heap.size < g) ∧ (∀ g, v4.ownBlock = some g → w.heap.size < g)) ∧ Sl wr 2 A n (Gs L) ∧ Blk wr w.heap.size 29 [.int .i64 en, .int .i64 p, .slice A n c, .slice B m cd] ∧ Later w wr) (fun _ _ i _ => n - (intOf i).toNat)
  case atStart => exact ⟨0, Nat.zero_le _, rfl, hr0, World.ownsRow_nil _ _ _ _, Lib.hid (fun g _ h => by cases h), Lib.hid ⟨fun g h => (by cases h; exact Nat.lt_succ_self _), fun g h => by cases h⟩, hs.keep l1, b1, l1⟩
  case round =>
    clear hs b1 l1 hr0
    rename_i wr
    obtain ⟨k, hk, rfl, o1, o2, SEP, FAR, hs, b1, lr⟩ := hrel
    by_cases hlt : k < n
    · have hkl : k < L.length := by rw [HLN.out]; exact hlt
      obtain ⟨ad, rfl⟩ := hs.addr (by omega)
      have HC := Lib.hid (hs.seg hkl)
      have ep : Hid (Im.nums en p (L.take (k + 1)) m = Im.nums en p (L.take k) m ++ [L[k].1]) := Lib.hid (by unfold Im.nums; rw [map_take_succ _ L k hkl, List.append_assoc])
      have ef : Hid ((L.take (k + 1)).map (·.2) = (L.take k).map (·.2) ++ [L[k].2]) := Lib.hid (map_take_succ _ L k hkl)
      obtain ⟨a, ha⟩ : ∃ a, a = L[k].1 := ⟨_, rfl⟩
      obtain ⟨s, hs'⟩ : ∃ s, s = L[k].2 := ⟨_, rfl⟩
      rw [← ha] at HC ep
      rw [← hs'] at HC ef
      clear ha hs'
      have kn : (k : Int) < (n : Int) := by omega
      have hwl := lr.size
      go_wp2_with (first
        | ((with_reducible refine wpList_load_addr (o := ⟨some 23, .load 47 (.tmp 22), _, _, _, none⟩) rfl _ _ rfl (ad.add (k * 2)) [.int .i64 a, .string s] _ ?_ HC.out Tryd.underlying47 rfl (seg_sz _ _) ?_); rfl)
        | ((with_reducible refine wpList_plain (o := ⟨some 28, .call { callee := .builtin .append, args := #[.tmp 24, .tmp 27], argTypes := #[44, 44] }, _, _, _, none⟩) rfl (fun K' hK => ?_)); refine wp_append_lies _ (.tmp 24) (.tmp 27) 44 rfl w.heap.size 3 nI _ 1 8 Tryd.underlying44 HI.out.1 HI.out.2.1 HI.out.2.2.1 HI.out.2.2.2 rfl (by decide) u3 (3 + k) (N64 (Im.nums en p (L.take k) m)) rfl ((o1.alloc _).alloc _) ⟨wr.heap.size + 1, 0, none⟩ 1 1 [.int .i64 a] rfl rfl (news_blk (Blk.new' (wr.alloc (.cells #[.int .i64 a, .string s] 47)) (wr.heap.size + 1) _ _ _ (by simp) rfl)) (one_int _ _) (by decide) (by unfold maxLen; omega) (by omega) (Later.alloc_size (lr.alloc lr.size _) _) _ rfl ?_; intro g1 cap1 wa own1 grow1 hat1 hlt_g1; refine hK _ _ ?_; clear hK K'; have hu1 : Later w wa := ((lr.alloc lr.size (.cells #[.int .i64 a, .string s] 47)).alloc (Later.alloc_size lr _) (.cells #[.int .i64 a] 3)).grown grow1 (Later.alloc_size (lr.alloc lr.size _) _) (fun b hb => (o1.lt b hb).1); have o2' := o2; replace o2 := ((o2.alloc (.cells #[.int .i64 a, .string s] 47)).alloc (.cells #[.int .i64 a] 3)).kept grow1 (sep_ne SEP.out); have bS := ((Blk.new wr 47 #[.int .i64 a, .string s] [.int .i64 a, .string s] rfl).alloc (.cells #[.int .i64 a] 3)).grown grow1 (fun e => by have := (o1.lt _ e.symm).2; omega); have cS := bS.cell (j := 1) (v := .string s) rfl; replace b1 := ((b1.alloc (.cells #[.int .i64 a, .string s] 47)).alloc (.cells #[.int .i64 a] 3)).grown grow1 (fun e => by have := FAR.out.1 _ e.symm; omega))
        | ((with_reducible refine wpList_plain (o := ⟨some 33, .call { callee := .builtin .append, args := #[.tmp 29, .tmp 32], argTypes := #[83, 83] }, _, _, _, none⟩) rfl (fun K' hK => ?_)); refine wp_append_lies _ (.tmp 29) (.tmp 32) 83 rfl w.heap.size 9 nS _ 1 16 Tryd.underlying83 HS.out.1 HS.out.2.1 HS.out.2.2.1 HS.out.2.2.2 rfl (by decide) u4 k (Strs ((L.take k).map (·.2))) rfl (o2.alloc _) ⟨wa.heap.size, 0, none⟩ 1 1 [.string s] rfl rfl (news_blk (Blk.new' wa (wa.heap.size) _ _ _ (by simp) rfl)) (one_str _) (by decide) (by unfold maxLen; omega) (by omega) (Later.alloc_size hu1 _) _ rfl ?_; intro g2 cap2 wb own2 grow2 hat2 hlt_g2; refine hK _ _ ?_; clear hK K'; skip))
      have hx2 : ∀ g, g2 = g → w.heap.size < g := fun g e => by
        subst e
        rcases hat2 with h | h
        · exact FAR.out.2 g2 h
        · have hh : g2 = wa.heap.size + 1 := by simpa using h
          have := hu1.size
          omega
      have hx1 : ∀ g, g1 = g → w.heap.size < g := fun g e => by
        subst e
        rcases hat1 with h | h
        · exact FAR.out.1 g1 h
        · have hh : g1 = wr.heap.size + 2 := by simpa using h
          omega
      have sep1 : ∀ g, g1 = g → u4.ownBlock ≠ some g := fun g hg e => by
        subst hg
        rcases hat1 with h | h
        · exact SEP.out g1 h e
        · have := (o2'.lt g1 e).2
          have hh : g1 = wr.heap.size + 2 := by simpa using h
          omega
      have sep2 : ∀ g, (Value.slice (some ⟨g1, 0, none⟩) (3 + k + 1) cap1).ownBlock = some g → (Value.slice (some ⟨g2, 0, none⟩) (k + 1) cap2).ownBlock ≠ some g := fun g hg e => by
        obtain rfl : g1 = g := by simpa [Value.ownBlock] using hg
        obtain rfl : g2 = g1 := by simpa [Value.ownBlock] using e
        rcases hat2 with h | h
        · exact sep1 g2 rfl h
        · have hh : g2 = wa.heap.size + 1 := by simpa using h
          omega
      have o1' := (own1.alloc (.cells #[.string s] 9)).kept grow2 (.inr (fun e => sep1 g1 rfl e.symm))
      have b1' := (b1.alloc (.cells #[.string s] 9)).grown grow2 (fun e => by have := FAR.out.2 _ e.symm; omega)
      have hu2 : Later w wb := (hu1.alloc hu1.size (.cells #[.string s] 9)).grown grow2 (Later.alloc_size hu1 _) (fun b hb => (o2.lt b hb).1)
      have hsb : Sl wb 2 (some ad) n (Gs L) := HSS.out _ hu2 _ rfl
      go_roundw
      case rel => exact ⟨k + 1, hlt, by go_num, by rw [ep.out, N64_app]; exact o1', by rw [ef.out, Strs_app]; exact own2, Lib.hid sep2, Lib.hid ⟨fun g h => hx1 g (by simpa [Value.ownBlock] using h), fun g h => hx2 g (by simpa [Value.ownBlock] using h)⟩, hsb, b1', hu2⟩
      case measure => simp [intOf]; omega
    · obtain rfl : k = n := by omega
      have nlt : ¬ ((k : Int) < (k : Int)) := by omega
      have hLk : L.take k = L := List.take_of_length_le (by rw [HLN.out]; exact Nat.le_refl _)
      rw [hLk] at o1 o2
      have c3 := b1.cell (j := 3) (v := .slice B m cd) rfl
      have et0 : L.map (·.2) = txS L d 0 := by unfold txS secS; simp
      rw [et0] at o2
      clear hLk et0 hs
      go_wp2
      obtain ⟨v3, hv3⟩ : ∃ v, v = u3 := ⟨_, rfl⟩
      rw [← hv3] at o1 SEP ⊢
      clear hv3 FAR b1 c3
      go_loopw [4, 38] (fun v4 i wq => ∃ q : Nat, q ≤ m ∧ i = .int .i64 (q : Int) ∧ wq.ownsRow w.heap.size 3 1 v3 (3 + k) (N64 (Im.nums en p L m)) ∧ wq.ownsRow w.heap.size 9 1 v4 (k + q) (Strs (txS L d q)) ∧ Hid (∀ g, v3.ownBlock = some g → v4.ownBlock ≠ some g) ∧ Later w wq) (fun _ i _ => m - (intOf i).toNat)
      case atStart => exact ⟨0, Nat.zero_le _, rfl, o1, o2, SEP, lr⟩
      case round =>
        clear o1 o2 SEP lr
        obtain ⟨q, hq, rfl, o1, o2, SEP, lr⟩ := hrel
        by_cases hql : q < m
        · obtain ⟨ad, rfl⟩ := hd.addr (by omega)
          have HC := Lib.hid fun w' (hl : Later w w') => (hd.keep hl).page hql
          have hXl := page128 hd hql
          have ef : Hid (txS L d (q + 1) = txS L d q ++ [strOfNums (Im.page d q)]) := Lib.hid (by unfold txS; rw [secS_succ, List.append_assoc])
          obtain ⟨X, hX⟩ : ∃ X, X = Im.page d q := ⟨_, rfl⟩
          rw [← hX] at HC hXl ef
          have HXL := Lib.hid hXl
          clear hX hXl
          have kn : (q : Int) < (m : Int) := by omega
          have hwl := lr.size
          go_wp2_with (first
            | ((with_reducible refine wpList_load_addr (o := ⟨some 41, .load 76 (.tmp 40), _, _, _, none⟩) rfl _ _ rfl (ad.add (q * 128)) (U X) _ ?_ (HC.out _ lr) Tryd.underlying76 rfl (page_sz HXL.out) ?_); rfl)
            | ((with_reducible refine wpList_store_abs (o := ⟨none, .store 76 (.tmp 8) (.tmp 41), _, _, _, none⟩) rfl _ _ _ rfl wr.heap.size 76 Tryd.zeroCells76.toList (U X) ?_ ?_ (Blk.new wr 76 Tryd.zeroCells76 Tryd.zeroCells76.toList Array.toArray_toList.symm) (page_sz HXL.out) (page_z HXL.out) (U_one _) ?_); rfl; rfl; intro wa xr x1; have k1 : Later wr wa := Below.only (later1 wr _) x1 (Nat.le_refl _); replace o1 := own_below o1 k1; replace o2 := own_below o2 k1; have hu1 := Later.trans_ lr k1; have hstr := run_str (P := Tryd.prog) 25 9 5 Tryd.underlying25 Tryd.underlying5 Tryd.underlying9 (blk_sl1 xr HXL.out) 128)
            | ((with_reducible refine wpList_plain (o := ⟨some 46, .call { callee := .builtin .append, args := #[.tmp 42, .tmp 45], argTypes := #[83, 83] }, _, _, _, none⟩) rfl (fun K' hK => ?_)); refine wp_append_lies _ (.tmp 42) (.tmp 45) 83 rfl w.heap.size 9 nS _ 1 16 Tryd.underlying83 HS.out.1 HS.out.2.1 HS.out.2.2.1 HS.out.2.2.2 rfl (by decide) u4 (k + q) (Strs (txS L d q)) rfl (o2.alloc _) ⟨wa.heap.size, 0, none⟩ 1 1 [.string (strOfNums X)] rfl rfl (news_blk (Blk.new' wa (wa.heap.size) _ _ _ (by simp) rfl)) (one_str _) (by decide) (by unfold maxLen; omega) (by omega) (Later.alloc_size hu1 _) _ rfl ?_; intro g2 cap2 wb own2 grow2 hat2 hlt_g2; refine hK _ _ ?_; clear hK K'; skip))
          have ho1 := (o1.alloc (.cells #[.string (strOfNums X)] 9)).kept grow2 (sep_ne' SEP.out)
          have hu2 : Later w wb := (hu1.alloc hu1.size (.cells #[.string (strOfNums X)] 9)).grown grow2 (Later.alloc_size hu1 _) (fun b hb => (o2.lt b hb).1)
          have sep2 : ∀ g, v3.ownBlock = some g → (Value.slice (some ⟨g2, 0, none⟩) (k + q + 1) cap2).ownBlock ≠ some g := fun g hg e => by
            obtain rfl : g2 = g := by simpa [Value.ownBlock] using e
            rcases hat2 with h | h
            · exact SEP.out g2 hg h
            · have hh : g2 = wa.heap.size + 1 := by simpa using h
              have := (o1.lt g2 hg).2
              omega
          go_roundw
          case rel => exact ⟨q + 1, hql, by go_num, ho1, by rw [ef.out, Strs_app]; exact own2, Lib.hid sep2, hu2⟩
          case measure => simp [intOf]; omega
        · obtain rfl : q = m := by omega
          have nlt : ¬ ((q : Int) < (q : Int)) := by omega
          obtain ⟨A3, c3, rfl, _, _, s3, _⟩ := own_form o1
          obtain ⟨A4, c4, rfl, _, _, s4, _⟩ := own_form o2
          clear SEP o1 o2 hd
          go_wp2_with (first
            | (go_at_call 47; refine (HE1.out _ _ _ s3).mono ?_; rintro e w5 ⟨v5, rfl, r5, l5⟩)
            | (go_at_call 48; refine (made_as (HE2.out _ _ _ (s4.keep l5))).mono ?_; rintro e w6 ⟨A6, c6, rfl, _, _, _, s6, l6⟩; replace r5 := own_below r5 l6)
            | (at_builtin; refine wpList_app _ rfl _ _ 25 rfl wr.heap.size 5 nU _ 1 1 Tryd.underlying25 HU.out.1 HU.out.2.1 HU.out.2.2.1 HU.out.2.2.2 rfl (by decide) _ _ _ rfl r5 A6 _ c6 _ rfl s6 (U_one _) (by have := HM.out; rw [List.length_append] at this; unfold maxLen; omega) (by have := HM.out; rw [List.length_append] at this; omega) (Nat.le_trans l5.size l6.size) ?_; intro v7 w7 own7 grow7))
          have l7 : Later w w7 := (Later.trans_ (Later.trans_ lr l5) l6).grown grow7 (Later.trans_ (Later.trans_ lr l5) l6).size (fun b hb => Nat.le_trans lr.size (r5.lt b hb).1)
          go_ret
          exact ⟨_, rfl, own_base (by rw [List.length_append, U_append]; exact own7) lr.size, l7⟩
end Go.Proofs.YtjfphjgmphlbhaaDoor

/-
  THE WALKS OF the reference's Encode and Same.
-/
namespace Go.Proofs.YtjfphjgmphlbhaaDoor
open Go.RowKit Go.ChangeShapes Go.WideShapes Go.ChangeAt

set_option maxRecDepth 100000 in
theorem Sl.seg0 {w : World} {m : Nat} {ad : Addr} {L : List Im.Seg} (h : Sl w 2 (some ad) m (Gs L)) {k : Nat} (hk : k < L.length) : w.cell? (ad.add (k * 2)) = some (.int .i64 L[k].1) := h.seg hk 0 _ rfl
set_option maxRecDepth 100000 in
theorem Sl.seg1 {w : World} {m : Nat} {ad : Addr} {L : List Im.Seg} (h : Sl w 2 (some ad) m (Gs L)) {k : Nat} (hk : k < L.length) : w.cell? ⟨(ad.add (k * 2)).block, (ad.add (k * 2)).off + 1, none⟩ = some (.string L[k].2) := h.seg hk 1 _ rfl
set_option maxRecDepth 100000 in
theorem sl_page {w : World} {m q : Nat} {ad : Addr} {d X : Wm.Bs} (h : Sl w 128 (some ad) m (U d)) (hq : q < m) (hc : ∀ j u, (U X)[j]? = some u → w.cell? ((ad.add (q * 128)).add j) = some u) (hX : X.length = 128) : Sl w 1 (some (ad.add (q * 128))) 128 (U X) := by
  refine ⟨by rw [U_length, hX], fun _ => ⟨_, rfl, ?_, hc⟩⟩
  rw [addr_add_block]
  obtain ⟨_, e, hb, _⟩ := h.2 (by omega)
  cases e; exact hb
set_option maxRecDepth 100000 in
theorem Sl.segb {w : World} {m : Nat} {ad : Addr} {L : List Im.Seg} (h : Sl w 2 (some ad) m (Gs L)) {k : Nat} (hk : k < L.length) : ad.block < w.heap.size := by
  have := h.seglen
  obtain ⟨_, e, hb, _⟩ := h.2 (by omega)
  cases e; exact hb

set_option maxRecDepth 100000 in
set_option maxHeartbeats 4000000 in
theorem rencode_any (en p : Int) (A : Option Addr) (n c : Nat) (L : List Im.Seg) (B : Option Addr) (m cd : Nat) (d : Wm.Bs) (w : World) (hs : Sl w 2 A n (Gs L)) (hd : Sl w 128 B m (U d)) (hL : inSeg L) (hn : n ≤ 1000000) (hm : m ≤ 1000000) (hen : -9223372036854775808 ≤ en ∧ en ≤ 9223372036854775807) (hp : -9223372036854775808 ≤ p ∧ p ≤ 9223372036854775807) (hM : (encS en p L d m).length ≤ 140737488355328) :
    Calls Tryd.prog 42 #[.agg #[.int .i64 en, .int .i64 p, .slice A n c, .slice B m cd]] w (Made (encS en p L d m) w) := by
  have HLN := Lib.hid hs.seglen
  obtain ⟨nI, hIi, hIz, hIs, hIb⟩ := info_parts int_info
  obtain ⟨nS, hSi, hSz, hSs, hSb⟩ := info_parts str_info
  obtain ⟨nU, hUi, hUz, hUs, hUb⟩ := info_parts u8_info
  have HI := Lib.hid (show _ ∧ _ ∧ _ ∧ _ from ⟨hIi, hIz, hIs, hIb⟩)
  have HS := Lib.hid (show _ ∧ _ ∧ _ ∧ _ from ⟨hSi, hSz, hSs, hSb⟩)
  have HU := Lib.hid (show _ ∧ _ ∧ _ ∧ _ from ⟨hUi, hUz, hUs, hUb⟩)
  have hM1 : (Wm.encL Wm.encI (Im.nums en p L m)).length ≤ 140737488355328 ∧ (Wm.encL encT (txS L d m)).length ≤ 140737488355328 := by unfold encS at hM; rw [List.length_append] at hM; omega
  have hLb : L.length = n := HLN.out
  have HE1 := Lib.hid fun (A' : Option Addr) (c' : Nat) (w' : World) (h : Sl w' 1 A' (3 + n) (N64 (Im.nums en p L m))) => refInts_any A' (3 + n) c' (Im.nums en p L m) w' h (fun x hx => by
    unfold Im.nums at hx
    rcases List.mem_append.1 hx with hx | hx
    · simp only [List.mem_cons, List.not_mem_nil, or_false] at hx
      rcases hx with rfl | rfl | rfl
      · exact hen
      · exact hp
      · omega
    · obtain ⟨y, hy, rfl⟩ := List.mem_map.1 hx
      have := hL y hy
      omega) (by unfold maxLen; omega) hM1.1
  have HE2 := Lib.hid fun (A' : Option Addr) (c' : Nat) (w' : World) (h : Sl w' 1 A' (n + m) (Strs (txS L d m))) => refStrs_any A' (n + m) c' (txS L d m) w' h (fun x hx => by
    unfold txS at hx
    rcases List.mem_append.1 hx with hx | hx
    · obtain ⟨y, hy, rfl⟩ := List.mem_map.1 hx
      exact (hL y hy).2.2
    · unfold secS at hx
      obtain ⟨k, hk, rfl⟩ := List.mem_map.1 hx
      rw [Im.strN_size]
      have hk2 := List.mem_range.1 hk
      rw [page128 hd hk2]
      omega) (by unfold maxLen; omega) hM1.2
  have HM := Lib.hid hM
  obtain ⟨E1, hE1⟩ : ∃ E, E = Wm.encL Wm.encI (Im.nums en p L m) := ⟨_, rfl⟩
  obtain ⟨E2, hE2⟩ : ∃ E, E = Wm.encL encT (txS L d m) := ⟨_, rfl⟩
  unfold encS at HM ⊢
  rw [← hE1] at HE1 HM ⊢
  rw [← hE2] at HE2 HM ⊢
  clear hE1 hE2 hM1 hM hL hen hp hIi hIz hIs hIb hSi hSz hSs hSb hUi hUz hUs hUb hLb
  have HSS := Lib.hid fun w' (hl : Later w w') ad (e : A = some ad) => (e ▸ hs.keep hl : Sl w' 2 (some ad) n (Gs L))
  have l0 := later1 w (.cells #[.int .i64 en, .int .i64 p, .slice A n c, .slice B m cd] 29)
  have b1 := Blk.new w 29 #[.int .i64 en, .int .i64 p, .slice A n c, .slice B m cd] [.int .i64 en, .int .i64 p, .slice A n c, .slice B m cd] rfl
  go_enter Tryd.func42, Tryd.ntmps42
  go_wp2
  have hr0 := World.ownsRow_lit (base := w.heap.size) (e := 3) (size := 1) (w.alloc (.cells #[.int .i64 en, .int .i64 p, .slice A n c, .slice B m cd] 29)) #[.int .i64 en, .int .i64 p, .int .i64 (m : Int)] 3 l0.size (by decide) rfl
  replace b1 := b1.alloc (.cells #[.int .i64 en, .int .i64 p, .int .i64 (m : Int)] 3)
  have l1 := l0.alloc l0.size (.cells #[.int .i64 en, .int .i64 p, .int .i64 (m : Int)] 3)
  rw [World.size_alloc] at hr0
  go_loopw [3, 4, 5] (fun v3 v4 i wr => ∃ k : Nat, k ≤ n ∧ i = .int .i64 (k : Int) ∧ wr.ownsRow w.heap.size 3 1 v3 (3 + k) (N64 (Im.nums en p (L.take k) m)) ∧ wr.ownsRow w.heap.size 9 1 v4 k (Strs ((L.take k).map (·.2))) ∧ Hid (∀ g, v3.ownBlock = some g → v4.ownBlock ≠ some g) ∧ Hid ((∀ g, v3.ownBlock = some g → w.heap.size < g) ∧ (∀ g, v4.ownBlock = some g → w.heap.size < g)) ∧ Sl wr 2 A n (Gs L) ∧ Blk wr w.heap.size 29 [.int .i64 en, .int .i64 p, .slice A n c, .slice B m cd] ∧ Later w wr) (fun _ _ i _ => n - (intOf i).toNat)
  case atStart => exact ⟨0, Nat.zero_le _, rfl, hr0, World.ownsRow_nil _ _ _ _, Lib.hid (fun g _ h => by cases h), Lib.hid ⟨fun g h => (by cases h; exact Nat.lt_succ_self _), fun g h => by cases h⟩, hs.keep l1, b1, l1⟩
  case round =>
    clear hs b1 l1 hr0
    rename_i wr
    obtain ⟨k, hk, rfl, o1, o2, SEP, FAR, hs, b1, lr⟩ := hrel
    by_cases hlt : k < n
    · have hkl : k < L.length := by rw [HLN.out]; exact hlt
      obtain ⟨ad, rfl⟩ := hs.addr (by omega)
      have HC := Lib.hid (show Sl wr 2 (some ad) n (Gs L) → wr.cell? (ad.add (k * 2)) = some (.int .i64 L[k].1) from fun h => h.seg0 hkl)
      have HC1 := Lib.hid fun w' (h : Sl w' 2 (some ad) n (Gs L)) => h.seg1 hkl
      have hcl := hs.segb hkl
      have ep : Hid (Im.nums en p (L.take (k + 1)) m = Im.nums en p (L.take k) m ++ [L[k].1]) := Lib.hid (by unfold Im.nums; rw [map_take_succ _ L k hkl, List.append_assoc])
      have ef : Hid ((L.take (k + 1)).map (·.2) = (L.take k).map (·.2) ++ [L[k].2]) := Lib.hid (map_take_succ _ L k hkl)
      obtain ⟨a, ha⟩ : ∃ a, a = L[k].1 := ⟨_, rfl⟩
      obtain ⟨s, hs'⟩ : ∃ s, s = L[k].2 := ⟨_, rfl⟩
      rw [← ha] at HC ep
      rw [← hs'] at HC1 ef
      clear ha hs'
      have kn : (k : Int) < (n : Int) := by omega
      have hwl := lr.size
      have c0 := HC.out hs
      have c2 := b1.cell (j := 2) (v := .slice (some ad) n c) rfl
      go_wp2_with (first
        | ((with_reducible refine wpList_plain (o := ⟨some 30, .call { callee := .builtin .append, args := #[.tmp 22, .tmp 29], argTypes := #[44, 44] }, _, _, _, none⟩) rfl (fun K' hK => ?_)); refine wp_append_lies _ (.tmp 22) (.tmp 29) 44 rfl w.heap.size 3 nI _ 1 8 Tryd.underlying44 HI.out.1 HI.out.2.1 HI.out.2.2.1 HI.out.2.2.2 rfl (by decide) u3 (3 + k) (N64 (Im.nums en p (L.take k) m)) rfl (o1.alloc _) ⟨wr.heap.size, 0, none⟩ 1 1 [.int .i64 a] rfl rfl (news_blk (Blk.new' wr (wr.heap.size) _ _ _ (by simp) rfl)) (one_int _ _) (by decide) (by unfold maxLen; omega) (by omega) (Later.alloc_size lr _) _ rfl ?_; intro g1 cap1 wa own1 grow1 hat1 hlt_g1; refine hK _ _ ?_; clear hK K'; have hu1 : Later w wa := (lr.alloc lr.size (.cells #[.int .i64 a] 3)).grown grow1 (Later.alloc_size lr _) (fun b hb => (o1.lt b hb).1); have o2' := o2; replace o2 := (o2.alloc (.cells #[.int .i64 a] 3)).kept grow1 (sep_ne SEP.out); replace b1 := (b1.alloc (.cells #[.int .i64 a] 3)).grown grow1 (fun e => by have := FAR.out.1 _ e.symm; omega); have c2a := b1.cell (j := 2) (v := .slice (some ad) n c) rfl; have c1a := HC1.out _ (HSS.out _ hu1 _ rfl))
        | ((with_reducible refine wpList_plain (o := ⟨some 39, .call { callee := .builtin .append, args := #[.tmp 31, .tmp 38], argTypes := #[83, 83] }, _, _, _, none⟩) rfl (fun K' hK => ?_)); refine wp_append_lies _ (.tmp 31) (.tmp 38) 83 rfl w.heap.size 9 nS _ 1 16 Tryd.underlying83 HS.out.1 HS.out.2.1 HS.out.2.2.1 HS.out.2.2.2 rfl (by decide) u4 k (Strs ((L.take k).map (·.2))) rfl (o2.alloc _) ⟨wa.heap.size, 0, none⟩ 1 1 [.string s] rfl rfl (news_blk (Blk.new' wa (wa.heap.size) _ _ _ (by simp) rfl)) (one_str _) (by decide) (by unfold maxLen; omega) (by omega) (Later.alloc_size hu1 _) _ rfl ?_; intro g2 cap2 wb own2 grow2 hat2 hlt_g2; refine hK _ _ ?_; clear hK K'; skip))
      have hx2 : ∀ g, g2 = g → w.heap.size < g := fun g e => by
        subst e
        rcases hat2 with h | h
        · exact FAR.out.2 g2 h
        · have hh : g2 = wa.heap.size + 1 := by simpa using h
          have := hu1.size
          omega
      have hx1 : ∀ g, g1 = g → w.heap.size < g := fun g e => by
        subst e
        rcases hat1 with h | h
        · exact FAR.out.1 g1 h
        · have hh : g1 = wr.heap.size + 1 := by simpa using h
          omega
      have sep1 : ∀ g, g1 = g → u4.ownBlock ≠ some g := fun g hg e => by
        subst hg
        rcases hat1 with h | h
        · exact SEP.out g1 h e
        · have := (o2'.lt g1 e).2
          have hh : g1 = wr.heap.size + 1 := by simpa using h
          omega
      have sep2 : ∀ g, (Value.slice (some ⟨g1, 0, none⟩) (3 + k + 1) cap1).ownBlock = some g → (Value.slice (some ⟨g2, 0, none⟩) (k + 1) cap2).ownBlock ≠ some g := fun g hg e => by
        obtain rfl : g1 = g := by simpa [Value.ownBlock] using hg
        obtain rfl : g2 = g1 := by simpa [Value.ownBlock] using e
        rcases hat2 with h | h
        · exact sep1 g2 rfl h
        · have hh : g2 = wa.heap.size + 1 := by simpa using h
          omega
      have o1' := (own1.alloc (.cells #[.string s] 9)).kept grow2 (.inr (fun e => sep1 g1 rfl e.symm))
      have b1' := (b1.alloc (.cells #[.string s] 9)).grown grow2 (fun e => by have := FAR.out.2 _ e.symm; omega)
      have hu2 : Later w wb := (hu1.alloc hu1.size (.cells #[.string s] 9)).grown grow2 (Later.alloc_size hu1 _) (fun b hb => (o2.lt b hb).1)
      have hsb : Sl wb 2 (some ad) n (Gs L) := HSS.out _ hu2 _ rfl
      go_roundw
      case rel => exact ⟨k + 1, hlt, by go_num, by rw [ep.out, N64_app]; exact o1', by rw [ef.out, Strs_app]; exact own2, Lib.hid sep2, Lib.hid ⟨fun g h => hx1 g (by simpa [Value.ownBlock] using h), fun g h => hx2 g (by simpa [Value.ownBlock] using h)⟩, hsb, b1', hu2⟩
      case measure => simp [intOf]; omega
    · obtain rfl : k = n := by omega
      have nlt : ¬ ((k : Int) < (k : Int)) := by omega
      have hLk : L.take k = L := List.take_of_length_le (by rw [HLN.out]; exact Nat.le_refl _)
      rw [hLk] at o1 o2
      have c2 := b1.cell (j := 2) (v := .slice A k c) rfl
      have c3 := b1.cell (j := 3) (v := .slice B m cd) rfl
      have et0 : L.map (·.2) = txS L d 0 := by unfold txS secS; simp
      rw [et0] at o2
      clear hLk et0 hs
      go_wp2
      obtain ⟨v3, hv3⟩ : ∃ v, v = u3 := ⟨_, rfl⟩
      rw [← hv3] at o1 SEP ⊢
      clear hv3 c3
      go_loopw [4, 6] (fun v4 i wq => ∃ q : Nat, q ≤ m ∧ i = .int .i64 (q : Int) ∧ wq.ownsRow w.heap.size 3 1 v3 (3 + k) (N64 (Im.nums en p L m)) ∧ wq.ownsRow w.heap.size 9 1 v4 (k + q) (Strs (txS L d q)) ∧ Hid (∀ g, v3.ownBlock = some g → v4.ownBlock ≠ some g) ∧ Hid (∀ g, v4.ownBlock = some g → w.heap.size < g) ∧ Blk wq w.heap.size 29 [.int .i64 en, .int .i64 p, .slice A k c, .slice B m cd] ∧ Later w wq) (fun _ i _ => m - (intOf i).toNat)
      case atStart => exact ⟨0, Nat.zero_le _, rfl, o1, o2, SEP, Lib.hid FAR.out.2, b1, lr⟩
      case round =>
        clear o1 o2 SEP FAR b1 lr
        obtain ⟨q, hq, rfl, o1, o2, SEP, FAR, b1, lr⟩ := hrel
        by_cases hql : q < m
        · obtain ⟨ad, rfl⟩ := hd.addr (by omega)
          have HC := Lib.hid fun w' (hl : Later w w') => (hd.keep hl).page hql
          have hXl := page128 hd hql
          have ef : Hid (txS L d (q + 1) = txS L d q ++ [strOfNums (Im.page d q)]) := Lib.hid (by unfold txS; rw [secS_succ, List.append_assoc])
          obtain ⟨X, hX⟩ : ∃ X, X = Im.page d q := ⟨_, rfl⟩
          rw [← hX] at HC hXl ef
          have HXL := Lib.hid hXl
          clear hX hXl
          have kn : (q : Int) < (m : Int) := by omega
          have hwl := lr.size
          have c3 := b1.cell (j := 3) (v := .slice (some ad) m cd) rfl
          have hstr := run_str (P := Tryd.prog) 25 9 5 Tryd.underlying25 Tryd.underlying5 Tryd.underlying9 (sl_page (hd.keep lr) hql (HC.out _ lr) HXL.out) 128
          go_wp2_with (first
            | ((with_reducible refine wpList_plain (o := ⟨some 55, .call { callee := .builtin .append, args := #[.tmp 47, .tmp 54], argTypes := #[83, 83] }, _, _, _, none⟩) rfl (fun K' hK => ?_)); refine wp_append_lies _ (.tmp 47) (.tmp 54) 83 rfl w.heap.size 9 nS _ 1 16 Tryd.underlying83 HS.out.1 HS.out.2.1 HS.out.2.2.1 HS.out.2.2.2 rfl (by decide) u4 (k + q) (Strs (txS L d q)) rfl (o2.alloc _) ⟨wr.heap.size, 0, none⟩ 1 1 [.string (strOfNums X)] rfl rfl (news_blk (Blk.new' wr (wr.heap.size) _ _ _ (by simp) rfl)) (one_str _) (by decide) (by unfold maxLen; omega) (by omega) (Later.alloc_size lr _) _ rfl ?_; intro g2 cap2 wb own2 grow2 hat2 hlt_g2; refine hK _ _ ?_; clear hK K'; skip))
          have hx2 : ∀ g, g2 = g → w.heap.size < g := fun g e => by
            subst e
            rcases hat2 with h | h
            · exact FAR.out g2 h
            · have hh : g2 = wr.heap.size + 1 := by simpa using h
              omega
          have b1' := (b1.alloc (.cells #[.string (strOfNums X)] 9)).grown grow2 (fun e => by have := FAR.out _ e.symm; omega)
          have ho1 := (o1.alloc (.cells #[.string (strOfNums X)] 9)).kept grow2 (sep_ne' SEP.out)
          have hu2 : Later w wb := (lr.alloc lr.size (.cells #[.string (strOfNums X)] 9)).grown grow2 (Later.alloc_size lr _) (fun b hb => (o2.lt b hb).1)
          have sep2 : ∀ g, v3.ownBlock = some g → (Value.slice (some ⟨g2, 0, none⟩) (k + q + 1) cap2).ownBlock ≠ some g := fun g hg e => by
            obtain rfl : g2 = g := by simpa [Value.ownBlock] using e
            rcases hat2 with h | h
            · exact SEP.out g2 hg h
            · have hh : g2 = wr.heap.size + 1 := by simpa using h
              have := (o1.lt g2 hg).2
              omega
          go_roundw
          case rel => exact ⟨q + 1, hql, by go_num, ho1, by rw [ef.out, Strs_app]; exact own2, Lib.hid sep2, Lib.hid (fun g h => hx2 g (by simpa [Value.ownBlock] using h)), b1', hu2⟩
          case measure => simp [intOf]; omega
        · obtain rfl : q = m := by omega
          have nlt : ¬ ((q : Int) < (q : Int)) := by omega
          obtain ⟨A3, c3, rfl, _, _, s3, _⟩ := own_form o1
          obtain ⟨A4, c4, rfl, _, _, s4, _⟩ := own_form o2
          have c3 := b1.cell (j := 3) (v := .slice B q cd) rfl
          clear SEP o1 o2 hd
          go_wp2_with (first
            | (go_at_call 65; refine (HE1.out _ _ _ s3).mono ?_; rintro e w5 ⟨v5, rfl, r5, l5⟩)
            | (go_at_call 66; refine (made_as (HE2.out _ _ _ (s4.keep l5))).mono ?_; rintro e w6 ⟨A6, c6, rfl, _, _, _, s6, l6⟩; replace r5 := own_below r5 l6)
            | (at_builtin; refine wpList_app _ rfl _ _ 25 rfl wr.heap.size 5 nU _ 1 1 Tryd.underlying25 HU.out.1 HU.out.2.1 HU.out.2.2.1 HU.out.2.2.2 rfl (by decide) _ _ _ rfl r5 A6 _ c6 _ rfl s6 (U_one _) (by have := HM.out; rw [List.length_append] at this; unfold maxLen; omega) (by have := HM.out; rw [List.length_append] at this; omega) (Nat.le_trans l5.size l6.size) ?_; intro v7 w7 own7 grow7))
          have l7 : Later w w7 := (Later.trans_ (Later.trans_ lr l5) l6).grown grow7 (Later.trans_ (Later.trans_ lr l5) l6).size (fun b hb => Nat.le_trans lr.size (r5.lt b hb).1)
          go_ret
          exact ⟨_, rfl, own_base (by rw [List.length_append, U_append]; exact own7) lr.size, l7⟩
end Go.Proofs.YtjfphjgmphlbhaaDoor
