/-
  THE STATEMENT HashWordsMatchSpec: the check of words is the specification's, and looks at their lowest 40 bits alone.
-/
import Derived.Test.YtblakffpiimbdaaDoorHashV
namespace Go.Proofs.YtblakffpiimbdaaDoor
open Go.RowKit Go.ChangeShapes Go.WideShapes Go.ChangeAt

theorem i64_info : (Tryd.prog.info? 3).map (fun i => (i.zero, i.size, i.bytes)) = some (some (.int .i64 0), 1, 8) := by kernel_rfl
def lows (l : List Int) : List Int := l.map fun x => q40 (o40 x)
theorem q40_mod (x : Int) : q40 (o40 x) = x % 1099511627776 := by
  unfold q40 o40
  rw [BitVec.toNat_ofInt]
  show (((x % 1099511627776).toNat : Nat) : Int) = _
  omega
theorem five_low (x : Int) : five (q40 (o40 x)) = five x := by
  rw [q40_mod]
  unfold five
  congr 1
  · omega
  congr 1
  · omega
  congr 1
  · omega
  congr 1
  · omega
  congr 1
  omega
theorem fives_lows (l : List Int) : fives (lows l) = fives l := by
  induction l with
  | nil => rfl
  | cons x l ih =>
    show five (q40 (o40 x)) ++ fives (lows l) = five x ++ fives l
    rw [ih, five_low]
theorem lows_snoc (l : List Int) (x : Int) : lows (l ++ [x]) = lows l ++ [q40 (o40 x)] := by simp [lows]
theorem lows_len (l : List Int) : (lows l).length = l.length := List.length_map _
theorem own_snoc64 {w : World} {B : Nat} {e : TypeId} {v : Value} {a : List Int} {x : Int} (h : w.ownsRow B e 1 v (a.length + 1) (N64 a ++ [Value.int .i64 x])) : w.ownsRow B e 1 v (a ++ [x]).length (N64 (a ++ [x])) := by
  have e1 : (a ++ [x]).length = a.length + 1 := by simp
  rw [e1, show N64 (a ++ [x]) = N64 a ++ [Value.int .i64 x] by simp [N64]]
  exact h

set_option maxRecDepth 100000 in
set_option maxHeartbeats 1000000 in
theorem lawWords_any (A : Option Addr) (n c : Nat) (l : List Int) (w : World) (tab : Tab w) (hs : Sl w 1 A n (N64 l)) (hn : n ≤ maxLen) :
    Calls Tryd.prog 5 #[.slice A n c] w fun e w' => e = .returned (.bool true) ∧ Later w w' := by
  have HS := Lib.hid (sanity_any w tab)
  clear tab
  unfold maxLen at hn
  rcases Nat.lt_or_ge 80 n with h3 | h3
  · go_enter Tryd.func5, Tryd.ntmps5
    go_wp2_with (go_at_call 15; refine HS.out.mono ?_; rintro e w1 ⟨rfl, l1⟩)
    go_ret
    exact ⟨rfl, l1⟩
  clear hn
  obtain ⟨i0, hi, hz0, hz1, hz2⟩ := info_parts i64_info
  have hln : l.length = n := by have := hs.1; simp only [N64, List.length_map] at this; omega
  have HL := Lib.hid hln; clear hln
  go_enter Tryd.func5, Tryd.ntmps5
  go_wp2_with (go_at_call 15; refine HS.out.mono ?_; rintro e w1 ⟨rfl, l1⟩)
  go_loopw [4, 5] (fun v i wr => ∃ k : Nat, k ≤ n ∧ i = .int .i64 k ∧ wr.ownsRow w.heap.size 3 1 v (lows (l.take k)).length (N64 (lows (l.take k))) ∧ Later w wr) (fun _ i _ => n - (intOf i).toNat)
  case atStart => exact ⟨0, Nat.zero_le _, rfl, World.ownsRow_nil _ _ _ _, l1⟩
  case round =>
    obtain ⟨k, hk, rfl, hor, hbr⟩ := hrel
    by_cases hlt : k < n
    · obtain ⟨ad, x, rfl, hbl, hc, HX⟩ := (hs.keep hbr).int hlt
      obtain ⟨y, hy, hy2⟩ : ∃ y, bits .and .i64 x 1099511627775 = y ∧ y = q40 (o40 x) := ⟨_, i64_and40 x, rfl⟩
      have hnx := lows_snoc (l.take k) x
      rw [← hy2, ← HX.out] at hnx
      have HN := Lib.hid hnx
      have hlen : (lows (l.take k)).length ≤ 80 := by rw [lows_len, List.length_take]; omega
      have hsz := hbr.size
      clear hnx hy2
      go_wp2_with (at_builtin; refine wpList_append_own _ rfl _ _ 36 rfl w.heap.size 3 i0 (.int .i64 0) 1 8 Tryd.underlying36 hi hz0 hz1 hz2 rfl (by decide) _ _ _ rfl (hor.alloc _) ⟨wr.heap.size, 0, none⟩ 1 1 [.int .i64 _] rfl rfl (cell_one_new _ _ _) (one_int _ _) (by unfold maxLen; omega) (by omega) (by have := hbr.size; simp; omega) ?_; intro v' w2 hown' hgrow _)
      have hb1 : Later w w2 := (hbr.alloc hbr.size _).grown hgrow (by have := hbr.size; simp; omega) (fun k hk => (hor.lt k hk).1)
      have ho2 := own_snoc64 hown'
      rw [← HN.out] at ho2
      clear hown' hgrow hor
      go_wp2
      go_roundw
      case rel => exact ⟨k + 1, by omega, by go_num, ho2, hb1⟩
      case measure => simp [intOf]; omega
    · have he : l.take k = l := List.take_of_length_le (by rw [HL.out]; omega)
      rw [he] at hor
      clear he
      obtain ⟨V, cV, rfl, q1, q2, q3, _⟩ := own_form hor
      clear hor
      obtain ⟨r, hr⟩ : ∃ x, x = crcI (fives l) := ⟨_, rfl⟩
      have hlo : (lows l).length = n := by rw [lows_len, HL.out]
      have K1 := Lib.hid fun w' (hw : Later w w') => by have h := words_any A n c l w' (hs.keep hw) (by unfold maxLen; omega); rw [← hr] at h; exact h
      have K2 := Lib.hid fun w' (hw : Later w w') => by have h := refWords_any A n c l w' (hs.keep hw) (by omega); rw [← hr] at h; exact h
      have K3 := Lib.hid fun w' (hw : Sl w' 1 V n (N64 (lows l))) => by have h := words_any V n cV (lows l) w' hw (by unfold maxLen; omega); rw [fives_lows, ← hr] at h; exact h
      have K4 := Lib.hid fun w' (hw : Later w w') => refBytes_any A n c l w' (hs.keep hw) (by omega)
      have K5 := Lib.hid fun w' A c (hw : Sl w' 1 A (fives l).length (U (fives l))) => by have h := crc40_any A _ c (fives l) w' hw (fives_bs l) (by rw [fives_len, HL.out]; unfold maxLen; omega); rw [← hr] at h; exact h
      rw [hlo] at q3
      have HLO := Lib.hid hlo
      rw [hlo]
      clear hlo hr q1 q2
      go_wp2_with (first
        | (go_at_call 23; with_reducible refine (K3.out w3 (q3.keep h3')).mono ?_; rintro e w4 ⟨rfl, h4⟩; have l4 : Later w w4 := l3.trans (h4.mono l3.size))
        | (go_at_call 23; with_reducible refine (K1.out wr hbr).mono ?_; rintro e w2 ⟨rfl, h2⟩; have l2 : Later w w2 := hbr.trans (h2.mono hbr.size))
        | (go_at_call 24; with_reducible refine (K2.out w2 l2).mono ?_; rintro e w3 ⟨rfl, h3''⟩; have l3 : Later w w3 := l2.trans (h3''.mono l2.size); have h3' : Later wr w3 := Later.trans_ h2 h3'')
        | (go_at_call 25; (with_reducible refine (K4.out w4 l4).mono ?_); rintro e w5 ⟨A1, c1, rfl, g1, g2, _, g3, g4⟩; have l5 : Later w w5 := Later.trans_ l4 g4)
        | (go_at_call 16; (with_reducible refine (K5.out w5 A1 c1 g3).mono ?_); rintro e w6 ⟨rfl, h6⟩; have l6 : Later w w6 := Later.trans_ l5 h6))
      go_ret
      exact ⟨rfl, l6⟩

theorem hashWordsMatchSpec_contract (H : Type) (enc : TypeId × Value → H) (W : World) (base : Nat) (args : Array Value) (ds gs : List (DataW H)) (before : List MemPlace)
    (hval : ∀ (j : Nat) t v, Tryd.f5.params[j]? = some t → args[j]? = some v → Value.okWide Tryd.prog W .any base t v)
    (hW : DataW.Whole enc Tryd.prog Tryd.f5.params.toList Rows.hashWordsMatchSpecSpec.vars false W args.toList ds gs before) (hL : laidMetH Tryd.prog Rows.hashWordsMatchSpecRow.laid W) :
    Calls Tryd.prog 5 args W fun e W' => ∃ v, e = .returned v ∧ Rows.hashWordsMatchSpecSpec.post enc Tryd.prog Tryd.f5 false true false false W args v W' := by
  have hW' := hW
  have tab : Tab W := tab_of hL
  obtain ⟨p, q, hA0, hV, rfl, _, _⟩ := hW
  have hA : DataW.TrodAll enc Tryd.prog W 0 (fun _ => true) true Tryd.f5.params.toList args.toList ds p := hA0
  rw [Tryd.params5] at hA hval
  obtain ⟨v0, vs0, d0, ds0, p0, q0, hargs, rfl, rfl, h0, r0⟩ := trodAll_cons hA
  obtain ⟨rfl, rfl, rfl⟩ := trodAll_nil r0
  obtain rfl : args = #[v0] := by cases args; simp_all
  obtain ⟨rfl, rfl⟩ := trodVars_none hV
  obtain ⟨A, n, c, l, rfl, b1, b2, b3, _⟩ := ints_arg Tryd.underlying36 Tryd.underlying3 (by kernel_rfl) (hval 0 36 v0 rfl rfl) h0
  clear hA0
  simp only [List.append_nil] at hW'
  refine (lawWords_any A n c l W tab b3 (Nat.le_trans b1 b2)).mono fun e W' ⟨he, hw⟩ => ?_
  subst he
  exact ⟨_, rfl, law_post laidK rfl (by kernel_rfl) (by kernel_rfl) Tryd.underlying4 (by kernel_rfl) hW' rfl hw⟩
theorem hashWordsMatchSpec_met (os : Os) : laidMet Tryd.prog Rows.hashWordsMatchSpecRow.laid ((laidWorld os).forCall (fun _ _ => 0) ⟨#[], #[.slice none 0 0], []⟩).memory :=
  laidMet_of_run' 8 (by kernel_rfl) (by kernel_rfl)
theorem hashWordsMatchSpec_reads (os : Os) {H : Type} (enc : TypeId × Value → H) : ∃ places, DataW.whole enc Tryd.prog ((laidWorld os).forCall (fun _ _ => 0) ⟨#[], #[.slice none 0 0], []⟩).memory Tryd.f5.params.toList Rows.hashWordsMatchSpecSpec.vars false (#[.slice none 0 0] : Array Value).toList 8 = some ([.nil], [], places) :=
  ⟨[], by kernel_rfl⟩

set_option maxRecDepth 100000 in
theorem hashWordsMatchSpec_lifted (os : Os) (started : os.Started) (H : Type) (enc : TypeId × Value → H) (F : Stop.Interp) :
    ReturnsInHanded {} Tryd.checked os 5 .any ((OpenSpec.ofChange Rows.hashWordsMatchSpecSpec).preRow enc Tryd.prog Tryd.f5 Rows.hashWordsMatchSpecRow.domain false Rows.hashWordsMatchSpecRow.laid) (((OpenSpec.ofChange Rows.hashWordsMatchSpecSpec).at F).post enc Tryd.prog Tryd.f5 false true false false) := by
  obtain ⟨places, hx⟩ := hashWordsMatchSpec_reads os enc
  refine returnsInHanded_of_row (C := Tryd.checked) (s := OpenSpec.ofChange Rows.hashWordsMatchSpecSpec) ownK started (by kernel_rfl) Tryd.func5
    (witness_row_at (enc := enc) (C := Tryd.checked) false (laidWorld os) #[.slice none 0 0] rfl (by kernel_rfl) (by kernel_rfl) (by kernel_rfl)
      (OpenSpec.preRow_of_cond 8 hx (by kernel_rfl) (fun k hk => by cases hk) (by kernel_rfl) (hashWordsMatchSpec_met os))) ?_
  intro W base args ds gs before hval hW _ _ _ hL _ _
  exact hashWordsMatchSpec_contract H enc W base args ds gs before hval hW hL

set_option maxRecDepth 100000 in
theorem hashWordsMatchSpec_said : Rows.HashWordsMatchSpecSaid :=
  OpenClaim.holds_of_cond 5 Tryd.f5 rfl rfl rfl rfl rfl rfl rfl ⟨rfl, rfl, rfl, rfl, rfl⟩ rfl rfl rfl rfl rfl (by kernel_rfl) Tryd.func5 (by kernel_rfl)
    (of_decide_eq_true (by kernel_rfl)) (by unfold Func.isWrapper; first | (rw [if_pos (by decide +kernel)]; kernel_rfl) | (rw [if_neg (by decide +kernel)]; exact ⟨rfl, rfl⟩))
    (fun os started H enc _ F => by rw [OpenClaim.pre_eq_preRow]; exact hashWordsMatchSpec_lifted os started H enc F)

theorem hashWordsMatchSpec_plain (f : FuncId) (fn : Func) (hf : Tryd.pinned.checked.prog.funcNamed "simulacrum/simulacrumlaw02.HashWordsMatchSpec" = some f) (hfn : Tryd.pinned.checked.prog.funcs[f]? = some fn) :
    false = Tryd.pinned.checked.prog.looks [] ∧ ∀ (j : Nat) t, fn.params[j]? = some t → Tryd.pinned.checked.prog.wantsStandIn t = false := by
  obtain rfl : f = 5 := Option.some.inj ((show Tryd.prog.funcNamed "simulacrum/simulacrumlaw02.HashWordsMatchSpec" = some 5 by kernel_rfl).symm.trans hf) |>.symm
  obtain rfl : fn = Tryd.f5 := (Option.some.inj (Tryd.func5.symm.trans hfn)).symm
  refine ⟨by kernel_rfl, fun j t ht => ?_⟩
  exact wants_none 5 Tryd.f5.params (by kernel_rfl) j t ht

/-- The card. -/
theorem hashWordsMatchSpec_card : Rows.HashWordsMatchSpecCardSaid :=
  Claim7.holds_tied_plain_at .later [] _ _ _ _ hashWordsMatchSpec_said (fun _ h => by cases h) (by kernel_rfl) (fun _ h => by cases h) hashWordsMatchSpec_row_tie rfl ⟨rfl, rfl⟩ (by kernel_rfl) rfl hashWordsMatchSpec_plain (by kernel_rfl)
#print axioms hashWordsMatchSpec_card

end Go.Proofs.YtblakffpiimbdaaDoor
