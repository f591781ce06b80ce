/-
  A RING: a request followed.
-/
import Derived.Test.YtffgbbfcbobecaaRgH
import Derived.WalkMore
import Derived.Deep.AppendLies
import Derived.Laws.OwnMore
namespace Go.Proofs.Ytffgbbfcbobecaa
open Go.RowKit Go.ChangeShapes Go.WideShapes Go.ChangeAt

theorem Blk.grown {w w' : World} {B : Nat} {t : TypeId} {cs : List Value} {row : Option Nat} (h : Blk w B t cs) (g : w.grownBy w' row) (hne : some B ≠ row) : Blk w' B t cs := by
  unfold Blk; rw [g.block B h.lt hne]; exact h
theorem news_blk {w : World} {B : Nat} {t : TypeId} {cs : List Value} (h : Blk w B t cs) : ∀ j u, cs[j]? = some u → w.cell? ((⟨B, 0, none⟩ : Addr).add j) = some u := by
  intro j u hu
  rw [Addr.add_mid, Nat.zero_add]
  exact h.cell hu
theorem own_only {w w' : World} {base B : Nat} {e : TypeId} {size n : Nat} {v : Value} {xs : List Value} (h : w.ownsRow base e size v n xs) (k : Only B w w') (hne : ∀ g, v.ownBlock = some g → g ≠ B) : w'.ownsRow base e size v n xs :=
  h.kept (row := some B) ⟨k.1, k.2.1, k.2.2.1, Nat.le_of_eq k.size.symm, fun j _ hj => k.2.2.2.2 j (fun e => hj (by rw [e]))⟩ (by
    cases e : v.ownBlock with
    | none => exact .inl rfl
    | some g => exact .inr (fun h => hne g e (Option.some.inj h)))
theorem own_ne {w : World} {base : Nat} {e : TypeId} {size n : Nat} {v : Value} {xs : List Value} (h : w.ownsRow base e size v n xs) {B : Nat} {t : TypeId} {cs : List Value} (hb : Blk w B t cs) (hne : t ≠ e) : some B ≠ v.ownBlock := by
  intro hB
  rcases h.2 with ⟨rfl, _⟩ | ⟨g, cap, cur, rfl, _, hg, _⟩
  · cases hB
  · have e1 : B = g := by simpa [Value.ownBlock] using hB
    subst e1
    rw [show w.heap[B]? = _ from hb] at hg
    cases hg
    exact hne rfl
theorem wpList_build1 {P : Program} {ops : Array Oper} {rest : List Oper} {o : Oper} {a : Act} {w : World} {Q : Exit → Act → World → Prop} (hgd : o.guard = none) (t e : TypeId) (x : Operand) (ho : o.op = .buildSlice t 1 #[(0, x)])
    (X : Array Value) (ie : TypeInfo) (z : Value) (hu : P.underlying t = some (.slice e)) (hie : P.info? e = some ie) (hz : ie.zero = some z) (hs : ie.size = X.size) (hpos : 0 < X.size) (hsm : X.size ≤ 16777216)
    (hx : a.eval x = .agg X) (h : wpList P ops Q rest (a.put o.dst (.slice (some ⟨w.heap.size, 0, none⟩) 1 1)) (w.alloc (.cells X e))) : wpList P ops Q (o :: rest) a w :=
  wpList_plain hgd fun _ hK => wp_build1 t e x ho X ie z hu hie hz hs hpos hsm hx (hK _ _ h)
theorem part_info : (Try.prog.info? 59).map (fun i => (i.zero, i.size, i.bytes)) = some (some (.agg #[.int .i64 0, .int .i64 0, .int .i64 0, .bool false]), 4, 32) := by kernel_rfl
theorem chk_err1 {L : Nat} {b : Wm.Bs} {B i : Int} {l : List Rg.Pt} (hl : l.length ≤ 4) : chkE L l (Rg.pt b B i) (Rg.wd b B i 2) (Rg.wd b B i 3) = Rg.err1 L b B l i := by
  unfold chkE Rg.err1
  have e1 : (l.length = 4 ∨ Rg.has l (Rg.pt b B i).1 = true) ↔ (4 ≤ l.length ∨ Rg.has l i = true) := by
    show (l.length = 4 ∨ Rg.has l i = true) ↔ _
    constructor <;> (rintro (h | h); exact .inl (by omega); exact .inr h)
  have e2 : (¬ Rg.wd b B i 3 = 1) ↔ Rg.off b B i = false := by unfold Rg.off; simp
  have e3 : insP L (Rg.pt b B i) = false ↔ (Rg.wd b B i 1 < 1 ∨ 512 < Rg.wd b B i 1 ∨ (L : Int) < Rg.wd b B i 0 + Rg.wd b B i 1) := by
    unfold insP
    rw [decide_eq_false_iff_not]
    show ¬ (1 ≤ Rg.wd b B i 1 ∧ Rg.wd b B i 1 ≤ 512 ∧ Rg.wd b B i 0 + Rg.wd b B i 1 ≤ L) ↔ _
    omega
  have e4 : (hwF (Rg.wd b B i 2) = true ∨ (Rg.pt b B i).2.2.2 = false ∧ Rg.wri l = true) ↔ (Rg.wd b B i 2 / 4 % 64 ≠ 0 ∨ Rg.wd b B i 2 / 65536 ≠ 0 ∨ Rg.more b B i = false ∧ Rg.nxt b B i ≠ 0 ∨ Rg.wr b B i = false ∧ Rg.wri l = true) := by
    show (hwF (Rg.wd b B i 2) = true ∨ Rg.wr b B i = false ∧ Rg.wri l = true) ↔ _
    have e5 : hwF (Rg.wd b B i 2) = true ↔ (Rg.wd b B i 2 / 4 % 64 ≠ 0 ∨ Rg.wd b B i 2 / 65536 ≠ 0 ∨ Rg.more b B i = false ∧ Rg.nxt b B i ≠ 0) := by
      unfold hwF badF
      show (decide _ || (!Rg.more b B i && decide (Rg.nxt b B i ≠ 0))) = true ↔ _
      rw [Bool.or_eq_true, decide_eq_true_iff, Bool.and_eq_true, Bool.not_eq_true', decide_eq_true_iff, or_assoc]
    rw [e5]
    constructor
    · rintro ((h | h | h) | h)
      · exact .inl h
      · exact .inr (.inl h)
      · exact .inr (.inr (.inl h))
      · exact .inr (.inr (.inr h))
    · rintro (h | h | h | h)
      · exact .inl (.inl h)
      · exact .inl (.inr (.inl h))
      · exact .inl (.inr (.inr h))
      · exact .inr h
  simp only [e1, e2, e3, e4]
/-- What follow answers: parts and an error. -/
def GotP (l : List Rg.Pt) (er : Int) (w : World) (e : Ending) (w' : World) : Prop := ∃ AP m cp, e = .returned (.tuple #[.slice AP m cp, .int .i64 er]) ∧ m ≤ cp ∧ cp ≤ maxLen ∧ Sl w' 4 AP m (Ps l) ∧ l.length = m ∧ (∀ ad, AP = some ad → w.heap.size ≤ ad.block) ∧ Later w w'
theorem GotP.ok {l : List Rg.Pt} {er : Int} {w w' : World} {AP : Option Addr} {m cp : Nat} (h1 : m ≤ cp) (h2 : cp ≤ maxLen) (h : Sl w' 4 AP m (Ps l)) (hl : l.length = m) (hf : ∀ ad, AP = some ad → w.heap.size ≤ ad.block) (k : Later w w') : GotP l er w (.returned (.tuple #[.slice AP m cp, .int .i64 er])) w' := ⟨AP, m, cp, rfl, h1, h2, h, hl, hf, k⟩
theorem GotP.no {er : Int} {w w' : World} (k : Later w w') : GotP [] er w (.returned (.tuple #[.slice none 0 0, .int .i64 er])) w' := ⟨none, 0, 0, rfl, Nat.le_refl _, Nat.zero_le _, Sl.nil _ _ _, rfl, fun _ e => (by cases e), k⟩
theorem fol_err {L : Nat} {b : Wm.Bs} {B S : Int} {f : Nat} {l : List Rg.Pt} {i : Int} (h : Rg.err1 L b B l i ≠ 0) : Rg.fol L b B S (f + 1) l i = ([], Rg.err1 L b B l i) := by
  unfold Rg.fol
  have e : Rg.err L b B S l i = Rg.err1 L b B l i := if_pos h
  rw [e, if_pos h]
theorem fol_end {L : Nat} {b : Wm.Bs} {B S : Int} {f : Nat} {l : List Rg.Pt} {i : Int} (h : Rg.err1 L b B l i = 0) (hm : Rg.more b B i = false) : Rg.fol L b B S (f + 1) l i = (l ++ [Rg.pt b B i], 0) := by
  unfold Rg.fol
  have e : Rg.err L b B S l i = 0 := by unfold Rg.err; rw [if_neg (fun c => c h), if_neg (by rw [hm]; simp)]
  rw [e, if_neg (by simp), if_neg (by rw [hm]; simp)]
theorem fol_idx {L : Nat} {b : Wm.Bs} {B S : Int} {f : Nat} {l : List Rg.Pt} {i : Int} (h : Rg.err1 L b B l i = 0) (hm : Rg.more b B i = true) (hx : S ≤ Rg.nxt b B i) : Rg.fol L b B S (f + 1) l i = ([], 162) := by
  unfold Rg.fol
  have e : Rg.err L b B S l i = 162 := by unfold Rg.err; rw [if_neg (fun c => c h), if_pos ⟨hm, hx⟩]
  rw [e, if_pos (by simp)]
theorem fol_go {L : Nat} {b : Wm.Bs} {B S : Int} {f : Nat} {l : List Rg.Pt} {i : Int} (h : Rg.err1 L b B l i = 0) (hm : Rg.more b B i = true) (hx : ¬ S ≤ Rg.nxt b B i) : Rg.fol L b B S (f + 1) l i = Rg.fol L b B S f (l ++ [Rg.pt b B i]) (Rg.nxt b B i) := by
  conv => lhs; unfold Rg.fol
  have e : Rg.err L b B S l i = 0 := by unfold Rg.err; rw [if_neg (fun c => c h), if_neg (fun c => hx c.2)]
  rw [e, if_neg (by simp), if_pos hm]
theorem nxt_rng' {b : Wm.Bs} {B' : Int} (h : ∀ i k, 0 ≤ Rg.wd b B' i k ∧ Rg.wd b B' i k < 4294967296) (B : Int) (i : Int) (hB : B = B' := by rfl) : 0 ≤ Rg.nxt b B i ∧ Rg.nxt b B i < 256 := by
  subst hB
  have := h i 2
  unfold Rg.nxt
  omega
theorem err1_lt {L : Nat} {b : Wm.Bs} {B : Int} {l : List Rg.Pt} {i : Int} (h : Rg.err1 L b B l i = 0) : l.length < 4 := by
  unfold Rg.err1 at h
  split at h
  · cases h
  · omega
set_option maxRecDepth 100000 in
set_option maxHeartbeats 8000000 in
theorem follow_any (A : Option Addr) (n c : Nat) (b : Wm.Bs) (B S i0 : Int) (w : World) (hs : Sl w 128 A n (U b)) (hb : Wm.isBs b) (hn1 : 1 ≤ n) (hn : n ≤ 64) (hok : Rg.Ok (n * 128) B S) (h0 : 0 ≤ i0) (h1 : i0 < S) :
    Calls Try.prog 42 #[.agg #[.slice A n c], .agg #[.int .u32 B, .int .u32 S], .int .i64 i0] w (GotP (Rg.takL (n * 128) b B S i0) (Rg.takE (n * 128) b B S i0) w) := by
  have hS := hok.s
  obtain ⟨i0', hi0, hz0, hz1, hz2⟩ := info_parts part_info
  have HI := Lib.hid (show _ ∧ _ ∧ _ ∧ _ from ⟨hi0, hz0, hz1, hz2⟩)
  have KL0 := Lib.hid fun (i : Int) (hi0 : 0 ≤ i) (hi1 : i < S) w' (k : Later w w') => load_dc A n c b B S i w' (hs.keep k) hb hn1 hn hok hi0 hi1
  have KE0 := Lib.hid fun (l : List Rg.Pt) (i : Int) (hl : l.length ≤ 4) => chk_err1 (L := n * 128) (b := b) (B := B) (i := i) hl
  have KR := Lib.hid fun (i k : Int) => Rg.wd_rng hb B i k
  obtain ⟨R, hR⟩ : ∃ R, R = Rg.fol (n * 128) b B S 5 [] i0 := ⟨_, rfl⟩
  rw [show Rg.takL (n * 128) b B S i0 = R.1 from by rw [hR]; rfl, show Rg.takE (n * 128) b B S i0 = R.2 from by rw [hR]; rfl]
  have HR := Lib.hid hR.symm
  clear hR hs hok hi0 hz0 hz1 hz2
  have b3 : Blk _ w.heap.size 24 ([.slice A n c]) := ((Blk.new' w w.heap.size 24 ([.slice A n c]).toArray ([.slice A n c]) (by simp) rfl).alloc (.cells ([.int .u32 B, .int .u32 S]).toArray 27))
  have b4 : Blk _ (w.heap.size + 1) 27 ([.int .u32 B, .int .u32 S]) := (Blk.new' (w.alloc (.cells ([.slice A n c]).toArray 24)) (w.heap.size + 1) 27 ([.int .u32 B, .int .u32 S]).toArray ([.int .u32 B, .int .u32 S]) (by simp) rfl)
  have lw := ((later1 w (.cells ([.slice A n c]).toArray 24)).alloc (by simp; try omega) (.cells ([.int .u32 B, .int .u32 S]).toArray 27))
  obtain ⟨u0, hu⟩ : ∃ u, ((w.alloc (.cells ([.slice A n c]).toArray 24)).alloc (.cells ([.int .u32 B, .int .u32 S]).toArray 27)) = u := ⟨_, rfl⟩
  rw [hu] at b3 b4 lw
  go_enter Try.func42, Try.ntmps42
  go_upto_region 1 with fail
  have hu2 : ((w.alloc (.cells #[.slice A n c] 24)).alloc (.cells #[.int .u32 B, .int .u32 S] 27)) = u0 := hu
  try rw [hu2]
  clear hu hu2
  go_wp2
  go_step3
  go_wp2
  go_step3
  go_wp2
  go_loopg [2, 8] 5 (fun g v2 v8 wr => ∃ (i : Int) (l : List Rg.Pt), l.length + g = 5 ∧ l.length ≤ 4 ∧ v2 = .int .i64 i ∧ 0 ≤ i ∧ i < S ∧ Hid (Rg.fol (n * 128) b B S g l i = R) ∧ wr.ownsRow w.heap.size 59 4 v8 l.length (Ps l) ∧ Blk wr w.heap.size 24 [.slice A n c] ∧ Blk wr (w.heap.size + 1) 27 [.int .u32 B, .int .u32 S] ∧ Later w wr)
  case atStart => exact ⟨i0, [], rfl, Nat.zero_le _, rfl, h0, h1, HR, World.ownsRow_nil _ _ _ _, b3, b4, lw⟩
  case round =>
    clear b3 b4 lw HR
    obtain ⟨i, l, hlg, hl4, rfl, hi0, hi1, HF, ho, b3, b4, lr⟩ := hrel
    obtain ⟨gn, rfl⟩ : ∃ g', gk = g' + 1 := ⟨gk - 1, by omega⟩
    obtain ⟨A', c', rfl, hc1, hc2, hsl, hbk⟩ := own_form ho
    have KL := Lib.hid (KL0.out i hi0 hi1)
    have hE := KE0.out l i hl4
    have r0 := KR.out i 0
    have r1 := KR.out i 1
    have r2 := KR.out i 2
    have KC := Lib.hid fun w' (h : Sl w' 4 A' l.length (Ps l)) => check_any (Rg.pt b B i) (Rg.wd b B i 2) (Rg.wd b B i 3) A n c A' l.length c' l w' r2 hn r0.1 r0.2 r1.1 r1.2 h rfl hl4
    rw [hE] at KC
    have KN := Lib.hid fun w' => next_any (Rg.pt b B i) (Rg.wd b B i 2) (Rg.wd b B i 3) w' r2
    change Hid (∀ w', Calls Try.prog 65 #[.agg (dcC (Rg.pt b B i) (Rg.wd b B i 2) (Rg.wd b B i 3)).toArray] w' fun e w'_1 => e = .returned (.tuple #[.int .i64 (Rg.nxt b B i), .bool (Rg.more b B i)]) ∧ Later w' w'_1) at KN
    change Hid (∀ w', Later w w' → Calls Try.prog 40 #[.agg #[.slice A n c], .agg #[.int .u32 B, .int .u32 S], .int .i64 i] w' fun e w'_1 => e = .returned (.agg (dcC (Rg.pt b B i) (Rg.wd b B i 2) (Rg.wd b B i 3)).toArray) ∧ Later w' w'_1) at KL
    have nx := nxt_rng' KR.out B i
    obtain ⟨hx0, hx1⟩ := nx
    by_cases hE0 : Rg.err1 (n * 128) b B l i = 0
    · have hl3 := err1_lt hE0
      rw [hE0] at KC
      have e0 : ((0 : Int) != 0) = false := rfl
      cases hmo : Rg.more b B i
      · rw [hmo] at KN
        have HF' := Lib.hid ((HF.out).symm.trans (fol_end hE0 hmo))
        obtain ⟨f, hf⟩ : ∃ f, f = Rg.wd b B i 2 := ⟨_, rfl⟩
        obtain ⟨s, hs⟩ : ∃ s, s = Rg.wd b B i 3 := ⟨_, rfl⟩
        obtain ⟨p, hp⟩ : ∃ p, p = Rg.pt b B i := ⟨_, rfl⟩
        obtain ⟨nx, hnx⟩ : ∃ z, z = Rg.nxt b B i := ⟨_, rfl⟩
        rw [← hp, ← hf, ← hs] at KL KC KN
        rw [← hp] at HF'
        rw [← hnx] at KN hx0 hx1
        clear hp hf hs hnx
        clear hmo hE0 hE r0 r1 r2 hsl hbk HF
        go_wp2_with (first
          | (go_at_call 40; (with_reducible refine (KL.out _ lr).mono ?_); rintro e w1 ⟨rfl, l1⟩; replace b3 := b3.keep l1; replace b4 := b4.keep l1; replace ho := own_below ho l1; replace lr := Later.trans_ lr l1)
          | ((with_reducible refine wpList_store_abs (o := ⟨none, .store 73 (.tmp 9) (.tmp 16), _, _, _, none⟩) rfl _ _ _ rfl w1.heap.size 73 (dcC (0, 0, 0, false) 0 0) (dcC p f s) ?_ ?_ ?_ ?_ ?_ ?_ ?_); rfl; rfl; exact (Blk.new _ _ _ _ rfl); exact (dc_sz _ _ _); rfl; exact (dc_one _ _ _); intro w2 b9 o9; replace b3 := (b3.alloc (.cells #[.int .i64 0, .int .i64 0, .int .i64 0, .bool false, .int .u32 0, .int .u32 0] 73)).only o9 (Nat.ne_of_lt b3.lt); replace b4 := (b4.alloc (.cells #[.int .i64 0, .int .i64 0, .int .i64 0, .bool false, .int .u32 0, .int .u32 0] 73)).only o9 (Nat.ne_of_lt b4.lt); replace ho := own_only (ho.alloc (.cells #[.int .i64 0, .int .i64 0, .int .i64 0, .bool false, .int .u32 0, .int .u32 0] 73)) o9 (fun g hg => Nat.ne_of_lt (ho.lt g hg).2); replace lr := Below.only (lr.alloc lr.size (.cells #[.int .i64 0, .int .i64 0, .int .i64 0, .bool false, .int .u32 0, .int .u32 0] 73)) o9 lr.size)
          | ((with_reducible refine wpList_load_blk (o := ⟨some 17, .load 73 (.tmp 9), _, _, _, none⟩) rfl _ _ rfl w1.heap.size 73 (dcC p f s) _ ?_ ?_ Try.underlying73 rfl (dc_sz _ _ _) ?_); rfl; exact b9)
          | ((with_reducible refine wpList_load_blk (o := ⟨some 30, .load 73 (.tmp 9), _, _, _, none⟩) rfl _ _ rfl w1.heap.size 73 (dcC p f s) _ ?_ ?_ Try.underlying73 rfl (dc_sz _ _ _) ?_); rfl; exact b9)
          | ((with_reducible refine wpList_load_blk (o := ⟨some 18, .load 24 (.tmp 3), _, _, _, none⟩) rfl _ _ rfl w.heap.size 24 ([.slice A n c]) _ ?_ ?_ Try.underlying24 rfl memS ?_); rfl; exact b3)
          | ((with_reducible refine wpList_load_blk (o := ⟨some 13, .load 24 (.tmp 3), _, _, _, none⟩) rfl _ _ rfl w.heap.size 24 ([.slice A n c]) _ ?_ ?_ Try.underlying24 rfl memS ?_); rfl; exact b3)
          | ((with_reducible refine wpList_load_blk (o := ⟨some 14, .load 27 (.tmp 4), _, _, _, none⟩) rfl _ _ rfl (w.heap.size + 1) 27 ([.int .u32 B, .int .u32 S]) _ ?_ ?_ Try.underlying27 rfl ring_sz ?_); rfl; exact b4)
          | (go_at_call 64; (with_reducible refine (KC.out _ (Sl.own ho)).mono ?_); rintro e w3 ⟨rfl, l3⟩; replace b3 := b3.keep l3; replace b4 := b4.keep l3; replace ho := own_below ho l3; replace lr := Later.trans_ lr l3; replace b9 := b9.keep l3)
          | ((with_reducible refine wpList_load_at (o := ⟨some 26, .load 59 (.tmp 25), _, _, _, none⟩) rfl _ _ rfl w1.heap.size 0 4 73 (dcC p f s) (Pc p) _ ?_ b9 rfl Try.underlying59 rfl (pt_sz _) ?_); rfl)
          | ((with_reducible refine wpList_build1 (o := ⟨some 27, .buildSlice 35 1 #[(0, .tmp 26)], _, _, _, none⟩) rfl _ 59 _ rfl (Pc p).toArray i0' _ Try.underlying35 HI.out.1 HI.out.2.1 ?_ ?_ ?_ ?_ ?_); exact HI.out.2.2.1; exact (show 0 < 4 from by decide); exact (show 4 ≤ 16777216 from by decide); rfl; have bn := Blk.new w3 59 (Pc p).toArray (Pc p) rfl; replace b3 := b3.alloc (.cells (Pc p).toArray 59); replace b4 := b4.alloc (.cells (Pc p).toArray 59); replace b9 := b9.alloc (.cells (Pc p).toArray 59); replace ho := ho.alloc (.cells (Pc p).toArray 59); replace lr := lr.alloc lr.size (.cells (Pc p).toArray 59))
          | (at_builtin; refine wpList_append_lies _ rfl _ _ 35 rfl w.heap.size 59 i0' (.agg #[.int .i64 0, .int .i64 0, .int .i64 0, .bool false]) 4 32 Try.underlying35 HI.out.1 HI.out.2.1 HI.out.2.2.1 HI.out.2.2.2 rfl (by decide) _ _ _ rfl ho ⟨w3.heap.size, 0, none⟩ 1 1 (Pc p) rfl rfl (news_blk bn) (pt_one _) (by decide) (by unfold maxLen; omega) (by omega) lr.size _ rfl ?_; intro g5 cap5 w5 own5 grow5 hat5 hlt5; replace b3 := b3.grown grow5 (own_ne ho b3 (by decide)); replace b4 := b4.grown grow5 (own_ne ho b4 (by decide)); replace b9 := b9.grown grow5 (own_ne ho b9 (by decide)); replace lr := lr.grown grow5 lr.size (fun b hb => (ho.lt b hb).1); clear ho bn; have e4 := b4.cell (j := 1) (v := .int .u32 S) rfl)
          | (go_at_call 65; (with_reducible refine (KN.out _).mono ?_); rintro e w6 ⟨rfl, l6⟩; clear e4; replace b3 := b3.keep l6; replace b4 := b4.keep l6; replace own5 := own_below own5 l6; replace lr := Later.trans_ lr l6; have e4 := b4.cell (j := 1) (v := .int .u32 S) rfl))
        go_ret2
        rw [HF'.out]
        obtain ⟨_, _, e9, q1, q2, q3, q4⟩ := own_form own5
        cases e9
        exact GotP.ok q1 q2 (by rw [Ps_snoc]; exact q3) (by simp) (fun ad e => (q4 ad e).1) lr
      · rw [hmo] at KN
        by_cases hx : S ≤ Rg.nxt b B i
        · have HF' := Lib.hid ((HF.out).symm.trans (fol_idx hE0 hmo hx))
          have d1 := decide_eq_true hx
          obtain ⟨f, hf⟩ : ∃ f, f = Rg.wd b B i 2 := ⟨_, rfl⟩
          obtain ⟨s, hs⟩ : ∃ s, s = Rg.wd b B i 3 := ⟨_, rfl⟩
          obtain ⟨p, hp⟩ : ∃ p, p = Rg.pt b B i := ⟨_, rfl⟩
          obtain ⟨nx, hnx⟩ : ∃ z, z = Rg.nxt b B i := ⟨_, rfl⟩
          rw [← hp, ← hf, ← hs] at KL KC KN
          try rw [← hp] at HF'
          rw [← hnx] at KN hx0 hx1 d1
          try rw [← hnx] at HF' hxx
          clear hp hf hs hnx
          clear hmo hE0 hE r0 r1 r2 hsl hbk HF hx
          go_wp2_with (first
            | (go_at_call 40; (with_reducible refine (KL.out _ lr).mono ?_); rintro e w1 ⟨rfl, l1⟩; replace b3 := b3.keep l1; replace b4 := b4.keep l1; replace ho := own_below ho l1; replace lr := Later.trans_ lr l1)
            | ((with_reducible refine wpList_store_abs (o := ⟨none, .store 73 (.tmp 9) (.tmp 16), _, _, _, none⟩) rfl _ _ _ rfl w1.heap.size 73 (dcC (0, 0, 0, false) 0 0) (dcC p f s) ?_ ?_ ?_ ?_ ?_ ?_ ?_); rfl; rfl; exact (Blk.new _ _ _ _ rfl); exact (dc_sz _ _ _); rfl; exact (dc_one _ _ _); intro w2 b9 o9; replace b3 := (b3.alloc (.cells #[.int .i64 0, .int .i64 0, .int .i64 0, .bool false, .int .u32 0, .int .u32 0] 73)).only o9 (Nat.ne_of_lt b3.lt); replace b4 := (b4.alloc (.cells #[.int .i64 0, .int .i64 0, .int .i64 0, .bool false, .int .u32 0, .int .u32 0] 73)).only o9 (Nat.ne_of_lt b4.lt); replace ho := own_only (ho.alloc (.cells #[.int .i64 0, .int .i64 0, .int .i64 0, .bool false, .int .u32 0, .int .u32 0] 73)) o9 (fun g hg => Nat.ne_of_lt (ho.lt g hg).2); replace lr := Below.only (lr.alloc lr.size (.cells #[.int .i64 0, .int .i64 0, .int .i64 0, .bool false, .int .u32 0, .int .u32 0] 73)) o9 lr.size)
            | ((with_reducible refine wpList_load_blk (o := ⟨some 17, .load 73 (.tmp 9), _, _, _, none⟩) rfl _ _ rfl w1.heap.size 73 (dcC p f s) _ ?_ ?_ Try.underlying73 rfl (dc_sz _ _ _) ?_); rfl; exact b9)
            | ((with_reducible refine wpList_load_blk (o := ⟨some 30, .load 73 (.tmp 9), _, _, _, none⟩) rfl _ _ rfl w1.heap.size 73 (dcC p f s) _ ?_ ?_ Try.underlying73 rfl (dc_sz _ _ _) ?_); rfl; exact b9)
            | ((with_reducible refine wpList_load_blk (o := ⟨some 18, .load 24 (.tmp 3), _, _, _, none⟩) rfl _ _ rfl w.heap.size 24 ([.slice A n c]) _ ?_ ?_ Try.underlying24 rfl memS ?_); rfl; exact b3)
            | ((with_reducible refine wpList_load_blk (o := ⟨some 13, .load 24 (.tmp 3), _, _, _, none⟩) rfl _ _ rfl w.heap.size 24 ([.slice A n c]) _ ?_ ?_ Try.underlying24 rfl memS ?_); rfl; exact b3)
            | ((with_reducible refine wpList_load_blk (o := ⟨some 14, .load 27 (.tmp 4), _, _, _, none⟩) rfl _ _ rfl (w.heap.size + 1) 27 ([.int .u32 B, .int .u32 S]) _ ?_ ?_ Try.underlying27 rfl ring_sz ?_); rfl; exact b4)
            | (go_at_call 64; (with_reducible refine (KC.out _ (Sl.own ho)).mono ?_); rintro e w3 ⟨rfl, l3⟩; replace b3 := b3.keep l3; replace b4 := b4.keep l3; replace ho := own_below ho l3; replace lr := Later.trans_ lr l3; replace b9 := b9.keep l3)
            | ((with_reducible refine wpList_load_at (o := ⟨some 26, .load 59 (.tmp 25), _, _, _, none⟩) rfl _ _ rfl w1.heap.size 0 4 73 (dcC p f s) (Pc p) _ ?_ b9 rfl Try.underlying59 rfl (pt_sz _) ?_); rfl)
            | ((with_reducible refine wpList_build1 (o := ⟨some 27, .buildSlice 35 1 #[(0, .tmp 26)], _, _, _, none⟩) rfl _ 59 _ rfl (Pc p).toArray i0' _ Try.underlying35 HI.out.1 HI.out.2.1 ?_ ?_ ?_ ?_ ?_); exact HI.out.2.2.1; exact (show 0 < 4 from by decide); exact (show 4 ≤ 16777216 from by decide); rfl; have bn := Blk.new w3 59 (Pc p).toArray (Pc p) rfl; replace b3 := b3.alloc (.cells (Pc p).toArray 59); replace b4 := b4.alloc (.cells (Pc p).toArray 59); replace b9 := b9.alloc (.cells (Pc p).toArray 59); replace ho := ho.alloc (.cells (Pc p).toArray 59); replace lr := lr.alloc lr.size (.cells (Pc p).toArray 59))
            | (at_builtin; refine wpList_append_lies _ rfl _ _ 35 rfl w.heap.size 59 i0' (.agg #[.int .i64 0, .int .i64 0, .int .i64 0, .bool false]) 4 32 Try.underlying35 HI.out.1 HI.out.2.1 HI.out.2.2.1 HI.out.2.2.2 rfl (by decide) _ _ _ rfl ho ⟨w3.heap.size, 0, none⟩ 1 1 (Pc p) rfl rfl (news_blk bn) (pt_one _) (by decide) (by unfold maxLen; omega) (by omega) lr.size _ rfl ?_; intro g5 cap5 w5 own5 grow5 hat5 hlt5; replace b3 := b3.grown grow5 (own_ne ho b3 (by decide)); replace b4 := b4.grown grow5 (own_ne ho b4 (by decide)); replace b9 := b9.grown grow5 (own_ne ho b9 (by decide)); replace lr := lr.grown grow5 lr.size (fun b hb => (ho.lt b hb).1); clear ho bn; have e4 := b4.cell (j := 1) (v := .int .u32 S) rfl)
            | (go_at_call 65; (with_reducible refine (KN.out _).mono ?_); rintro e w6 ⟨rfl, l6⟩; clear e4; replace b3 := b3.keep l6; replace b4 := b4.keep l6; replace own5 := own_below own5 l6; replace lr := Later.trans_ lr l6; have e4 := b4.cell (j := 1) (v := .int .u32 S) rfl))
          go_ret2
          rw [HF'.out]
          exact GotP.no lr
        · have HF' := Lib.hid ((fol_go hE0 hmo hx).symm.trans (HF.out))
          have d1 := decide_eq_false hx
          have hxx := Int.not_le.1 hx
          obtain ⟨f, hf⟩ : ∃ f, f = Rg.wd b B i 2 := ⟨_, rfl⟩
          obtain ⟨s, hs⟩ : ∃ s, s = Rg.wd b B i 3 := ⟨_, rfl⟩
          obtain ⟨p, hp⟩ : ∃ p, p = Rg.pt b B i := ⟨_, rfl⟩
          obtain ⟨nx, hnx⟩ : ∃ z, z = Rg.nxt b B i := ⟨_, rfl⟩
          rw [← hp, ← hf, ← hs] at KL KC KN
          try rw [← hp] at HF'
          rw [← hnx] at KN hx0 hx1 d1
          try rw [← hnx] at HF' hxx
          clear hp hf hs hnx
          clear hmo hE0 hE r0 r1 r2 hsl hbk HF hx
          go_wp2_with (first
            | (go_at_call 40; (with_reducible refine (KL.out _ lr).mono ?_); rintro e w1 ⟨rfl, l1⟩; replace b3 := b3.keep l1; replace b4 := b4.keep l1; replace ho := own_below ho l1; replace lr := Later.trans_ lr l1)
            | ((with_reducible refine wpList_store_abs (o := ⟨none, .store 73 (.tmp 9) (.tmp 16), _, _, _, none⟩) rfl _ _ _ rfl w1.heap.size 73 (dcC (0, 0, 0, false) 0 0) (dcC p f s) ?_ ?_ ?_ ?_ ?_ ?_ ?_); rfl; rfl; exact (Blk.new _ _ _ _ rfl); exact (dc_sz _ _ _); rfl; exact (dc_one _ _ _); intro w2 b9 o9; replace b3 := (b3.alloc (.cells #[.int .i64 0, .int .i64 0, .int .i64 0, .bool false, .int .u32 0, .int .u32 0] 73)).only o9 (Nat.ne_of_lt b3.lt); replace b4 := (b4.alloc (.cells #[.int .i64 0, .int .i64 0, .int .i64 0, .bool false, .int .u32 0, .int .u32 0] 73)).only o9 (Nat.ne_of_lt b4.lt); replace ho := own_only (ho.alloc (.cells #[.int .i64 0, .int .i64 0, .int .i64 0, .bool false, .int .u32 0, .int .u32 0] 73)) o9 (fun g hg => Nat.ne_of_lt (ho.lt g hg).2); replace lr := Below.only (lr.alloc lr.size (.cells #[.int .i64 0, .int .i64 0, .int .i64 0, .bool false, .int .u32 0, .int .u32 0] 73)) o9 lr.size)
            | ((with_reducible refine wpList_load_blk (o := ⟨some 17, .load 73 (.tmp 9), _, _, _, none⟩) rfl _ _ rfl w1.heap.size 73 (dcC p f s) _ ?_ ?_ Try.underlying73 rfl (dc_sz _ _ _) ?_); rfl; exact b9)
            | ((with_reducible refine wpList_load_blk (o := ⟨some 30, .load 73 (.tmp 9), _, _, _, none⟩) rfl _ _ rfl w1.heap.size 73 (dcC p f s) _ ?_ ?_ Try.underlying73 rfl (dc_sz _ _ _) ?_); rfl; exact b9)
            | ((with_reducible refine wpList_load_blk (o := ⟨some 18, .load 24 (.tmp 3), _, _, _, none⟩) rfl _ _ rfl w.heap.size 24 ([.slice A n c]) _ ?_ ?_ Try.underlying24 rfl memS ?_); rfl; exact b3)
            | ((with_reducible refine wpList_load_blk (o := ⟨some 13, .load 24 (.tmp 3), _, _, _, none⟩) rfl _ _ rfl w.heap.size 24 ([.slice A n c]) _ ?_ ?_ Try.underlying24 rfl memS ?_); rfl; exact b3)
            | ((with_reducible refine wpList_load_blk (o := ⟨some 14, .load 27 (.tmp 4), _, _, _, none⟩) rfl _ _ rfl (w.heap.size + 1) 27 ([.int .u32 B, .int .u32 S]) _ ?_ ?_ Try.underlying27 rfl ring_sz ?_); rfl; exact b4)
            | (go_at_call 64; (with_reducible refine (KC.out _ (Sl.own ho)).mono ?_); rintro e w3 ⟨rfl, l3⟩; replace b3 := b3.keep l3; replace b4 := b4.keep l3; replace ho := own_below ho l3; replace lr := Later.trans_ lr l3; replace b9 := b9.keep l3)
            | ((with_reducible refine wpList_load_at (o := ⟨some 26, .load 59 (.tmp 25), _, _, _, none⟩) rfl _ _ rfl w1.heap.size 0 4 73 (dcC p f s) (Pc p) _ ?_ b9 rfl Try.underlying59 rfl (pt_sz _) ?_); rfl)
            | ((with_reducible refine wpList_build1 (o := ⟨some 27, .buildSlice 35 1 #[(0, .tmp 26)], _, _, _, none⟩) rfl _ 59 _ rfl (Pc p).toArray i0' _ Try.underlying35 HI.out.1 HI.out.2.1 ?_ ?_ ?_ ?_ ?_); exact HI.out.2.2.1; exact (show 0 < 4 from by decide); exact (show 4 ≤ 16777216 from by decide); rfl; have bn := Blk.new w3 59 (Pc p).toArray (Pc p) rfl; replace b3 := b3.alloc (.cells (Pc p).toArray 59); replace b4 := b4.alloc (.cells (Pc p).toArray 59); replace b9 := b9.alloc (.cells (Pc p).toArray 59); replace ho := ho.alloc (.cells (Pc p).toArray 59); replace lr := lr.alloc lr.size (.cells (Pc p).toArray 59))
            | (at_builtin; refine wpList_append_lies _ rfl _ _ 35 rfl w.heap.size 59 i0' (.agg #[.int .i64 0, .int .i64 0, .int .i64 0, .bool false]) 4 32 Try.underlying35 HI.out.1 HI.out.2.1 HI.out.2.2.1 HI.out.2.2.2 rfl (by decide) _ _ _ rfl ho ⟨w3.heap.size, 0, none⟩ 1 1 (Pc p) rfl rfl (news_blk bn) (pt_one _) (by decide) (by unfold maxLen; omega) (by omega) lr.size _ rfl ?_; intro g5 cap5 w5 own5 grow5 hat5 hlt5; replace b3 := b3.grown grow5 (own_ne ho b3 (by decide)); replace b4 := b4.grown grow5 (own_ne ho b4 (by decide)); replace b9 := b9.grown grow5 (own_ne ho b9 (by decide)); replace lr := lr.grown grow5 lr.size (fun b hb => (ho.lt b hb).1); clear ho bn; have e4 := b4.cell (j := 1) (v := .int .u32 S) rfl)
            | (go_at_call 65; (with_reducible refine (KN.out _).mono ?_); rintro e w6 ⟨rfl, l6⟩; clear e4; replace b3 := b3.keep l6; replace b4 := b4.keep l6; replace own5 := own_below own5 l6; replace lr := Later.trans_ lr l6; have e4 := b4.cell (j := 1) (v := .int .u32 S) rfl))
          go_roundg gn
          case measure => omega
          case rel => exact ⟨nx, l ++ [p], by simp; omega, by simp; omega, rfl, hx0, hxx, HF', by rw [Ps_snoc, List.length_append]; exact own5, b3, b4, lr⟩
    · have HF' := Lib.hid ((HF.out).symm.trans (fol_err hE0))
      have e0 : (Rg.err1 (n * 128) b B l i != 0) = true := bne_iff_ne.2 hE0
      obtain ⟨E1, hE1⟩ : ∃ z, z = Rg.err1 (n * 128) b B l i := ⟨_, rfl⟩
      rw [← hE1] at KC HF' e0
      obtain ⟨f, hf⟩ : ∃ f, f = Rg.wd b B i 2 := ⟨_, rfl⟩
      obtain ⟨s, hs⟩ : ∃ s, s = Rg.wd b B i 3 := ⟨_, rfl⟩
      obtain ⟨p, hp⟩ : ∃ p, p = Rg.pt b B i := ⟨_, rfl⟩
      rw [← hp, ← hf, ← hs] at KL KC KN
      clear hp hf hs
      clear hE1 hE0 hE r0 r1 r2 hsl hbk HF hx0 hx1 KN
      go_wp2_with (first
        | (go_at_call 40; (with_reducible refine (KL.out _ lr).mono ?_); rintro e w1 ⟨rfl, l1⟩; replace b3 := b3.keep l1; replace b4 := b4.keep l1; replace ho := own_below ho l1; replace lr := Later.trans_ lr l1)
        | ((with_reducible refine wpList_store_abs (o := ⟨none, .store 73 (.tmp 9) (.tmp 16), _, _, _, none⟩) rfl _ _ _ rfl w1.heap.size 73 (dcC (0, 0, 0, false) 0 0) (dcC p f s) ?_ ?_ ?_ ?_ ?_ ?_ ?_); rfl; rfl; exact (Blk.new _ _ _ _ rfl); exact (dc_sz _ _ _); rfl; exact (dc_one _ _ _); intro w2 b9 o9; replace b3 := (b3.alloc (.cells #[.int .i64 0, .int .i64 0, .int .i64 0, .bool false, .int .u32 0, .int .u32 0] 73)).only o9 (Nat.ne_of_lt b3.lt); replace b4 := (b4.alloc (.cells #[.int .i64 0, .int .i64 0, .int .i64 0, .bool false, .int .u32 0, .int .u32 0] 73)).only o9 (Nat.ne_of_lt b4.lt); replace ho := own_only (ho.alloc (.cells #[.int .i64 0, .int .i64 0, .int .i64 0, .bool false, .int .u32 0, .int .u32 0] 73)) o9 (fun g hg => Nat.ne_of_lt (ho.lt g hg).2); replace lr := Below.only (lr.alloc lr.size (.cells #[.int .i64 0, .int .i64 0, .int .i64 0, .bool false, .int .u32 0, .int .u32 0] 73)) o9 lr.size)
        | ((with_reducible refine wpList_load_blk (o := ⟨some 17, .load 73 (.tmp 9), _, _, _, none⟩) rfl _ _ rfl w1.heap.size 73 (dcC p f s) _ ?_ ?_ Try.underlying73 rfl (dc_sz _ _ _) ?_); rfl; exact b9)
        | ((with_reducible refine wpList_load_blk (o := ⟨some 30, .load 73 (.tmp 9), _, _, _, none⟩) rfl _ _ rfl w1.heap.size 73 (dcC p f s) _ ?_ ?_ Try.underlying73 rfl (dc_sz _ _ _) ?_); rfl; exact b9)
        | ((with_reducible refine wpList_load_blk (o := ⟨some 18, .load 24 (.tmp 3), _, _, _, none⟩) rfl _ _ rfl w.heap.size 24 ([.slice A n c]) _ ?_ ?_ Try.underlying24 rfl memS ?_); rfl; exact b3)
        | ((with_reducible refine wpList_load_blk (o := ⟨some 13, .load 24 (.tmp 3), _, _, _, none⟩) rfl _ _ rfl w.heap.size 24 ([.slice A n c]) _ ?_ ?_ Try.underlying24 rfl memS ?_); rfl; exact b3)
        | ((with_reducible refine wpList_load_blk (o := ⟨some 14, .load 27 (.tmp 4), _, _, _, none⟩) rfl _ _ rfl (w.heap.size + 1) 27 ([.int .u32 B, .int .u32 S]) _ ?_ ?_ Try.underlying27 rfl ring_sz ?_); rfl; exact b4)
        | (go_at_call 64; (with_reducible refine (KC.out _ (Sl.own ho)).mono ?_); rintro e w3 ⟨rfl, l3⟩; replace b3 := b3.keep l3; replace b4 := b4.keep l3; replace ho := own_below ho l3; replace lr := Later.trans_ lr l3; replace b9 := b9.keep l3)
        | ((with_reducible refine wpList_load_at (o := ⟨some 26, .load 59 (.tmp 25), _, _, _, none⟩) rfl _ _ rfl w1.heap.size 0 4 73 (dcC p f s) (Pc p) _ ?_ b9 rfl Try.underlying59 rfl (pt_sz _) ?_); rfl)
        | ((with_reducible refine wpList_build1 (o := ⟨some 27, .buildSlice 35 1 #[(0, .tmp 26)], _, _, _, none⟩) rfl _ 59 _ rfl (Pc p).toArray i0' _ Try.underlying35 HI.out.1 HI.out.2.1 ?_ ?_ ?_ ?_ ?_); exact HI.out.2.2.1; exact (show 0 < 4 from by decide); exact (show 4 ≤ 16777216 from by decide); rfl; have bn := Blk.new w3 59 (Pc p).toArray (Pc p) rfl; replace b3 := b3.alloc (.cells (Pc p).toArray 59); replace b4 := b4.alloc (.cells (Pc p).toArray 59); replace b9 := b9.alloc (.cells (Pc p).toArray 59); replace ho := ho.alloc (.cells (Pc p).toArray 59); replace lr := lr.alloc lr.size (.cells (Pc p).toArray 59))
        | (at_builtin; refine wpList_append_lies _ rfl _ _ 35 rfl w.heap.size 59 i0' (.agg #[.int .i64 0, .int .i64 0, .int .i64 0, .bool false]) 4 32 Try.underlying35 HI.out.1 HI.out.2.1 HI.out.2.2.1 HI.out.2.2.2 rfl (by decide) _ _ _ rfl ho ⟨w3.heap.size, 0, none⟩ 1 1 (Pc p) rfl rfl (news_blk bn) (pt_one _) (by decide) (by unfold maxLen; omega) (by omega) lr.size _ rfl ?_; intro g5 cap5 w5 own5 grow5 hat5 hlt5; replace b3 := b3.grown grow5 (own_ne ho b3 (by decide)); replace b4 := b4.grown grow5 (own_ne ho b4 (by decide)); replace b9 := b9.grown grow5 (own_ne ho b9 (by decide)); replace lr := lr.grown grow5 lr.size (fun b hb => (ho.lt b hb).1); clear ho bn; have e4 := b4.cell (j := 1) (v := .int .u32 S) rfl)
        | (go_at_call 65; (with_reducible refine (KN.out _).mono ?_); rintro e w6 ⟨rfl, l6⟩; clear e4; replace b3 := b3.keep l6; replace b4 := b4.keep l6; replace own5 := own_below own5 l6; replace lr := Later.trans_ lr l6; have e4 := b4.cell (j := 1) (v := .int .u32 S) rfl))
      go_ret2
      rw [HF'.out]
      exact GotP.no lr
end Go.Proofs.Ytffgbbfcbobecaa
