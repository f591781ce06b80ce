/-
  THE STATEMENT HashCrcMatchesSpec: the check of every byte sequence is the specification's.
-/
import Derived.Test.YtblakffpiimbdaaDoorHashS
import Derived.Laws.IdiomStrings
namespace Go.Proofs.YtblakffpiimbdaaDoor
open Go.RowKit Go.ChangeShapes Go.WideShapes Go.ChangeAt

theorem sb_ofN {b : Wm.Bs} (h : Wm.isBs b) : sb (strOfNums b) = b := by
  unfold sb strOfNums
  show ((b.map fun x => UInt8.ofNat x.toNat).toArray.toList).map _ = b
  rw [List.toList_toArray, List.map_map]
  conv => rhs; rw [← List.map_id b]
  apply List.map_congr_left
  intro x hx
  have hx2 := h x hx
  show (((UInt8.ofNat x.toNat).toNat : Nat) : Int) = x
  rw [UInt8.toNat_ofNat']
  show ((x.toNat % 256 : Nat) : Int) = x
  omega
/-- The bytes of a string, laid anew. -/
theorem sl_row (w : World) (s : ByteArray) (cap : Nat) (e : TypeId) (fr : Nat × Nat) : Sl (w.drew.alloc (.cells (bytesRow s cap) e fr)) 1 (some ⟨w.heap.size, 0, none⟩) s.size (U (sb s)) := by
  have h := heap_alloc_new w.drew (.cells (bytesRow s cap) e fr)
  refine ⟨by rw [U_length, sb_len, Nat.mul_one], fun _ => ⟨_, rfl, Nat.lt_of_lt_of_eq (Nat.lt_succ_self _) (Eq.symm (by simp)), fun j u hu => ?_⟩⟩
  rw [Addr.add_mid]
  unfold World.cell?
  show (match (w.drew.alloc _).heap[w.drew.heap.size]? with | some (.cells c _ _) => c[0 + j]? | _ => none) = some u
  rw [h, Nat.zero_add]
  show (bytesRow s cap)[j]? = some u
  have e1 : U (sb s) = (s.data.map fun b => Value.int .u8 b.toNat).toList := by simp [U, sb]
  rw [e1, Array.getElem?_toList] at hu
  obtain ⟨hj, _⟩ := Array.getElem?_eq_some_iff.1 hu
  unfold bytesRow
  rw [Array.getElem?_append_left hj, hu]

set_option maxRecDepth 100000 in
set_option maxHeartbeats 1000000 in
theorem lawCrc_any (A : Option Addr) (n c : Nat) (b : Wm.Bs) (w : World) (tab : Tab w) (hs : Sl w 1 A n (U b)) (hb : Wm.isBs b) (hnc : n ≤ c) (hc : c ≤ maxLen) :
    Calls Tryd.prog 3 #[.slice A n c] w fun e w' => e = .returned (.bool true) ∧ Later w w' := by
  have HS := Lib.hid (sanity_any w tab)
  clear tab
  rcases Nat.lt_or_ge 600 n with h3 | h3
  · unfold maxLen at hc
    go_enter Tryd.func3, Tryd.ntmps3
    go_wp2_with (go_at_call 15; refine HS.out.mono ?_; rintro e w1 ⟨rfl, l1⟩)
    go_ret
    exact ⟨rfl, l1⟩
  · obtain ⟨S, hS⟩ : ∃ S, S = strOfNums b := ⟨_, rfl⟩
    have hbl := hs.blen
    have hsb : sb S = b := by rw [hS]; exact sb_ofN hb
    have hsz : S.size = n := by rw [← sb_len, hsb, hbl]
    obtain ⟨r, hr⟩ : ∃ r, r = crcI b := ⟨_, rfl⟩
    have hr0 : 0 ≤ r := by rw [hr]; exact (q40_bd _).1
    have hr1 : r < 1099511627776 := by rw [hr]; exact (q40_bd _).2
    have HC := Lib.hid fun (w' : World) (hl : Later w w') => by
      have := crc40_any A n c b w' (hs.keep hl) hb (Nat.le_trans hnc hc)
      rw [← hr] at this; exact this
    have HR := Lib.hid fun (w' : World) (cap : Nat) (fr : Nat × Nat) => by
      have := refCrc40_any (some ⟨w'.heap.size, 0, none⟩) S.size cap (sb S) (w'.drew.alloc (.cells (bytesRow S cap) 5 fr)) (sl_row w' S cap _ fr) (sb_bs S) (by rw [hsz]; exact Nat.le_trans hnc hc)
      rw [hsb, ← hr] at this; exact this
    have HK := Lib.hid fun (w' : World) (hl : Later w w') => by
      have := run_str (P := Tryd.prog) 22 9 5 Tryd.underlying22 Tryd.underlying5 Tryd.underlying9 (hs.keep hl) c
      rw [← hS] at this; exact this
    have kb := fun (w : World) (s : ByteArray) => run_bytes_of_string (P := Tryd.prog) w 9 22 5 s Tryd.underlying9 Tryd.underlying22 Tryd.underlying5
    clear hS hr hsb hsz hbl hs
    unfold maxLen at hc
    go_enter Tryd.func3, Tryd.ntmps3
    go_wp2_with (first
      | (go_at_call 15; refine HS.out.mono ?_; rintro e w1 ⟨rfl, l1⟩; have k1 := HK.out w1 l1)
      | (go_at_call 16; refine (HC.out w1 l1).mono ?_; rintro e w2 ⟨rfl, h2⟩; have l2 : Later w w2 := l1.trans (h2.mono l1.size))
      | (go_at_call 17; refine (HR.out w2 _ _).mono ?_; rintro e w3 ⟨rfl, h3'⟩; have l3 : Later w w3 := by (rw [← h3']; exact (Below.drew l2).alloc l2.size _)); have k3 := HK.out w3 l3)
    go_ret
    exact ⟨rfl, l3⟩

theorem hashCrcMatchesSpec_contract (H : Type) (enc : TypeId × Value → H) (W : World) (base : Nat) (args : Array Value) (ds gs : List (DataW H)) (before : List MemPlace)
    (hval : ∀ (j : Nat) t v, Tryd.f3.params[j]? = some t → args[j]? = some v → Value.okWide Tryd.prog W .any base t v)
    (hW : DataW.Whole enc Tryd.prog Tryd.f3.params.toList Rows.hashCrcMatchesSpecSpec.vars false W args.toList ds gs before) (hL : laidMetH Tryd.prog Rows.hashCrcMatchesSpecRow.laid W) :
    Calls Tryd.prog 3 args W fun e W' => ∃ v, e = .returned v ∧ Rows.hashCrcMatchesSpecSpec.post enc Tryd.prog Tryd.f3 false true false false W args v W' := by
  have hW' := hW
  have tab : Tab W := tab_of hL
  obtain ⟨p, q, hA0, hV, rfl, _, _⟩ := hW
  have hA : DataW.TrodAll enc Tryd.prog W 0 (fun _ => true) true Tryd.f3.params.toList args.toList ds p := hA0
  rw [Tryd.params3] at hA hval
  obtain ⟨v0, vs0, d0, ds0, p0, q0, hargs, rfl, rfl, h0, r0⟩ := trodAll_cons hA
  obtain ⟨rfl, rfl, rfl⟩ := trodAll_nil r0
  obtain rfl : args = #[v0] := by cases args; simp_all
  obtain ⟨rfl, rfl⟩ := trodVars_none hV
  obtain ⟨A0, n0, c0, b0, rfl, x0, y0, s0, z0⟩ := bytes_arg Tryd.underlying22 Tryd.underlying5 (by kernel_rfl) (hval 0 22 v0 rfl rfl) h0
  clear hA0
  simp only [List.append_nil] at hW'
  refine (lawCrc_any A0 n0 c0 b0 W tab s0 z0 x0 y0).mono fun e W' ⟨he, hw⟩ => ?_
  subst he
  exact ⟨_, rfl, law_post laidK rfl (by kernel_rfl) (by kernel_rfl) Tryd.underlying4 (by kernel_rfl) hW' rfl hw⟩
theorem hashCrcMatchesSpec_met (os : Os) : laidMet Tryd.prog Rows.hashCrcMatchesSpecRow.laid ((laidWorld os).forCall (fun _ _ => 0) ⟨#[], #[.slice none 0 0], []⟩).memory :=
  laidMet_of_run' 8 (by kernel_rfl) (by kernel_rfl)
theorem hashCrcMatchesSpec_reads (os : Os) {H : Type} (enc : TypeId × Value → H) : ∃ places, DataW.whole enc Tryd.prog ((laidWorld os).forCall (fun _ _ => 0) ⟨#[], #[.slice none 0 0], []⟩).memory Tryd.f3.params.toList Rows.hashCrcMatchesSpecSpec.vars false (#[.slice none 0 0] : Array Value).toList 8 = some ([.nil], [], places) :=
  ⟨[], by kernel_rfl⟩

set_option maxRecDepth 100000 in
theorem hashCrcMatchesSpec_lifted (os : Os) (started : os.Started) (H : Type) (enc : TypeId × Value → H) (F : Stop.Interp) :
    ReturnsInHanded {} Tryd.checked os 3 .any ((OpenSpec.ofChange Rows.hashCrcMatchesSpecSpec).preRow enc Tryd.prog Tryd.f3 Rows.hashCrcMatchesSpecRow.domain false Rows.hashCrcMatchesSpecRow.laid) (((OpenSpec.ofChange Rows.hashCrcMatchesSpecSpec).at F).post enc Tryd.prog Tryd.f3 false true false false) := by
  obtain ⟨places, hx⟩ := hashCrcMatchesSpec_reads os enc
  refine returnsInHanded_of_row (C := Tryd.checked) (s := OpenSpec.ofChange Rows.hashCrcMatchesSpecSpec) ownK started (by kernel_rfl) Tryd.func3
    (witness_row_at (enc := enc) (C := Tryd.checked) false (laidWorld os) #[.slice none 0 0] rfl (by kernel_rfl) (by kernel_rfl) (by kernel_rfl)
      (OpenSpec.preRow_of_cond 8 hx (by kernel_rfl) (fun k hk => by cases hk) (by kernel_rfl) (hashCrcMatchesSpec_met os))) ?_
  intro W base args ds gs before hval hW _ _ _ hL _ _
  exact hashCrcMatchesSpec_contract H enc W base args ds gs before hval hW hL

set_option maxRecDepth 100000 in
theorem hashCrcMatchesSpec_said : Rows.HashCrcMatchesSpecSaid :=
  OpenClaim.holds_of_cond 3 Tryd.f3 rfl rfl rfl rfl rfl rfl rfl ⟨rfl, rfl, rfl, rfl, rfl⟩ rfl rfl rfl rfl rfl (by kernel_rfl) Tryd.func3 (by kernel_rfl)
    (of_decide_eq_true (by kernel_rfl)) (by unfold Func.isWrapper; first | (rw [if_pos (by decide +kernel)]; kernel_rfl) | (rw [if_neg (by decide +kernel)]; exact ⟨rfl, rfl⟩))
    (fun os started H enc _ F => by rw [OpenClaim.pre_eq_preRow]; exact hashCrcMatchesSpec_lifted os started H enc F)

theorem hashCrcMatchesSpec_plain (f : FuncId) (fn : Func) (hf : Tryd.pinned.checked.prog.funcNamed "simulacrum/simulacrumlaw02.HashCrcMatchesSpec" = some f) (hfn : Tryd.pinned.checked.prog.funcs[f]? = some fn) :
    false = Tryd.pinned.checked.prog.looks [] ∧ ∀ (j : Nat) t, fn.params[j]? = some t → Tryd.pinned.checked.prog.wantsStandIn t = false := by
  obtain rfl : f = 3 := Option.some.inj ((show Tryd.prog.funcNamed "simulacrum/simulacrumlaw02.HashCrcMatchesSpec" = some 3 by kernel_rfl).symm.trans hf) |>.symm
  obtain rfl : fn = Tryd.f3 := (Option.some.inj (Tryd.func3.symm.trans hfn)).symm
  refine ⟨by kernel_rfl, fun j t ht => ?_⟩
  exact wants_none 3 Tryd.f3.params (by kernel_rfl) j t ht

/-- The card. -/
theorem hashCrcMatchesSpec_card : Rows.HashCrcMatchesSpecCardSaid :=
  Claim7.holds_tied_plain_at .later [] _ _ _ _ hashCrcMatchesSpec_said (fun _ h => by cases h) (by kernel_rfl) (fun _ h => by cases h) hashCrcMatchesSpec_row_tie rfl ⟨rfl, rfl⟩ (by kernel_rfl) rfl hashCrcMatchesSpec_plain (by kernel_rfl)
#print axioms hashCrcMatchesSpec_card

end Go.Proofs.YtblakffpiimbdaaDoor
