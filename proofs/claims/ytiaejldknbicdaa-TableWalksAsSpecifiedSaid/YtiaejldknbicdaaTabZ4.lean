/-
  THE STATEMENT TableWalksAsSpecified: Walk returns what the specification returns; for every memory, root, address, access and mode.
-/
import Derived.Test.YtiaejldknbicdaaTabZ2a
import Derived.Test.YtiaejldknbicdaaTabY3
import Derived.Test.YtiaejldknbicdaaTabY4
import Derived.Deep.MidRow
namespace Go.Proofs.Ytiaejldknbicdaa
open Go.RowKit Go.ChangeShapes Go.WideShapes Go.ChangeAt

theorem find_ok (n : Nat) (b : Wm.Bs) (root va : Int) (hb : Wm.isBs b) : (0 ≤ (Tm.find n b root va).e ∧ (Tm.find n b root va).e ≤ 4294967295) ∧ 0 < (Tm.find n b root va).r.length := by
  have h1 := Tm.wd_e hb (Tm.fA root va)
  have h2 := Tm.wd_e hb (Tm.sA (Tm.adr (Tm.wd b (Tm.fA root va))) va)
  unfold Tm.isE at h1 h2
  unfold Tm.find
  split
  · split
    · exact ⟨by show 0 ≤ Tm.wd b _ ∧ Tm.wd b _ ≤ _; omega, by simp⟩
    · exact ⟨by show 0 ≤ Tm.wd b _ ∧ Tm.wd b _ ≤ _; omega, by simp⟩
  · exact ⟨by show (0 : Int) ≤ 0 ∧ (0 : Int) ≤ _; omega, by simp⟩
theorem rwalk_any (A : Option Addr) (n c : Nat) (root va acc : Int) (us : Bool) (b : Wm.Bs) (w : World) (hs : Sl w 128 A n (U b)) (hb : Wm.isBs b) (h1 : 1 ≤ n ∧ n ≤ 64) (hr : 0 ≤ root ∧ root ≤ 4294967295) (hv : 0 ≤ va ∧ va ≤ 4294967295) (ha : 1 ≤ acc ∧ acc ≤ 4) :
    Calls Try.prog 12 #[.agg #[.slice A n c], .int .u32 root, .int .u32 va, .int .i64 acc, .bool us] w (GotRW (Tm.walk n b root va acc us) (if (Tm.walk n b root va acc us).ok then 0 else Tm.cause acc) w) := by
  have HC := Lib.hid fun w' => rcause_any acc w' ha
  by_cases h0 : root = 0
  · subst h0
    have hw : Tm.walk n b 0 va acc us = Tm.unt n va := by unfold Tm.walk; rw [if_pos rfl]
    rw [hw]
    by_cases hlt : va < (n : Int) * 128
    · have hu : Tm.unt n va = ⟨true, va, -1, [], []⟩ := by unfold Tm.unt; rw [if_pos hlt]
      rw [hu]
      exact rwalk_z1 A n c va acc us w h1 hv (Tm.cause acc) HC hlt
    · have hu : Tm.unt n va = ⟨false, 0, 0, [], []⟩ := by unfold Tm.unt; rw [if_neg hlt]
      rw [hu]
      exact rwalk_z2 A n c va acc us w h1 hv (Tm.cause acc) HC hlt
  · have hw : Tm.walk n b root va acc us = Tm.trans n b root va acc us := by unfold Tm.walk; rw [if_neg h0]
    rw [hw]
    unfold Tm.trans
    by_cases hlt : va < 131072
    · cases hp : Tm.pageB n root with
      | false =>
        rw [if_neg (by simp)]
        exact rwalk_d A n c root va acc us w h1 hv (Tm.cause acc) HC hr h0 hlt hp
      | true =>
        rw [if_pos (by simp [hlt])]
        have KF0 := fun w' (hl : Later w w') => rfind_any A n c root va b w' (hs.keep hl) hb h1.2 ⟨hr.1, by omega⟩ ⟨hv.1, hlt⟩
        obtain ⟨he, hn0⟩ := find_ok n b root va hb
        obtain ⟨F, hF⟩ : ∃ F, F = Tm.find n b root va := ⟨_, rfl⟩
        rw [← hF] at KF0 he hn0 ⊢
        clear hF
        obtain ⟨fa, fe, fr, ok⟩ := F
        cases ok with
        | false =>
          rw [if_neg (by simp)]
          exact rwalk_e1 A n c root va acc us w h1 hv (Tm.cause acc) HC hr h0 hlt hp fa fe fr fr.length rfl (Lib.hid fun w' hl => (KF0 w' hl).mono fun r w'' ⟨pg, h, _⟩ => ⟨pg, h⟩)
        | true =>
          have KF := Lib.hid fun w' (hl : Later w w') => (KF0 w' hl).mono (R' := GotLg fa fe (Tm.pgOf fe va) fr fr.length true w') fun r w'' ⟨q, h, hq⟩ => by
            have := hq rfl
            rw [this] at h
            exact h
          have hpg : 0 ≤ Tm.pgOf fe va ∧ Tm.pgOf fe va < 1099511627776 := by
            have he1 : 0 ≤ fe := he.1
            have he2 : fe ≤ 4294967295 := he.2
            unfold Tm.pgOf Tm.adr
            split <;> omega
          clear KF0
          cases hp2 : Tm.pageB n (Tm.pgOf fe va) with
          | false =>
            rw [if_neg (by simp)]
            exact rwalk_e2 A n c root va acc us w h1 hv (Tm.cause acc) HC hr h0 hlt hp fa fe fr fr.length rfl _ hpg hp2 KF
          | true =>
            cases hal : Tm.allows fe acc us with
            | false =>
              rw [if_neg (by simp)]
              exact rwalk_e3 A n c root va acc us w h1 hv (Tm.cause acc) HC hr h0 hlt hp fa fe fr fr.length rfl _ hpg hp2 he ha hal KF
            | true =>
              rw [if_pos (by simp)]
              unfold Tm.wkOf
              by_cases hx : Tm.after fe acc = fe
              · rw [if_pos hx]
                exact rwalk_y0 A n c root va acc us w h1 hv (Tm.cause acc) HC hr h0 hlt hp fa fe fr fr.length rfl _ hpg hp2 he ha hal _ rfl hx KF
              · rw [if_neg hx]
                exact rwalk_y1 A n c root va acc us w h1 hv (Tm.cause acc) HC hr h0 hlt hp fa fe fr fr.length rfl _ hpg hp2 he ha hal _ rfl hn0 _ rfl hx KF
    · rw [if_neg (by simp [hlt])]
      exact rwalk_c A n c root va acc us w h1 hv (Tm.cause acc) HC hr h0 hlt
theorem wpList_load_g {P : Program} {ops : Array Oper} {rest : List Oper} {o : Oper} {a : Act} {w : World} {Q : Exit → Act → World → Prop} (ty : TypeId) (x : Operand) (ho : o.op = .load ty x)
    (g : Nat) (t : TypeId) (cs : List Value) (d : TypeDesc) (hw : Region.wanted o (yielded ops a.tmps) = true) (hx : a.eval x = .pointer (some ⟨g, 0, none⟩)) (hg : Blk w g t cs)
    (hu : P.underlying ty = some d) (hd : (match d with | .struct _ | .array _ _ => true | _ => false) = true) (hi : (P.info? ty).map (·.size) = some cs.length)
    (h : wpList P ops Q rest (a.put o.dst (.agg cs.toArray)) w) : wpList P ops Q (o :: rest) a w :=
  wpList_step fun K hK => by
    rw [hw, if_pos rfl]
    exact wp_load_row ty x ho g hx t cs.toArray (0, 0) d hg hu hd (by rw [List.size_toArray]; exact hi) (hK _ _ h)
theorem wpList_load_atg {P : Program} {ops : Array Oper} {rest : List Oper} {o : Oper} {a : Act} {w : World} {Q : Exit → Act → World → Prop} (ty : TypeId) (x : Operand) (ho : o.op = .load ty x)
    (g off n : Nat) (t : TypeId) (all cs : List Value) (d : TypeDesc) (hw : Region.wanted o (yielded ops a.tmps) = true) (hx : a.eval x = .pointer (some ⟨g, off, none⟩)) (hg : Blk w g t all) (hcs : (all.drop off).take n = cs)
    (hu : P.underlying ty = some d) (hd : d.isRow = true) (hi : (P.info? ty).map (·.size) = some cs.length)
    (h : wpList P ops Q rest (a.put o.dst (.agg cs.toArray)) w) : wpList P ops Q (o :: rest) a w :=
  wpList_step fun K hK => by
    rw [hw, if_pos rfl]
    exact wp_load_mid ty x ho g off hx cs d (by rw [← hcs]; exact hg.range off n) hu hd hi (hK _ _ h)
/-- What hands back a walk of the reference, its parts named. -/
def GotRX (a l : Int) (s : List (Int × Int × Int)) (r : List Int) (ns nr : Nat) (ca : Int) (w : World) (e : Ending) (w' : World) : Prop :=
  ∃ AS AR sc rc, e = .returned (.agg #[.int .i64 a, .int .i64 l, .slice AS ns sc, .slice AR nr rc, .int .i64 ca]) ∧ Sl w' 3 AS ns (Ws s) ∧ Sl w' 1 AR nr (N64 r) ∧ Later w w'
theorem walk_len (n : Nat) (b : Wm.Bs) (root va acc : Int) (us : Bool) : (Tm.walk n b root va acc us).s.length ≤ 1000 ∧ (Tm.walk n b root va acc us).r.length ≤ 1000 := by
  have hf := Tm.find_reads n b root va
  have h3 : (Tm.find n b root va).r.length ≤ 1000 := by omega
  unfold Tm.walk Tm.unt Tm.trans Tm.wkOf
  split
  · split <;> simp
  · split
    · split
      · refine ⟨?_, h3⟩
        show (if _ then _ else _ : List _).length ≤ _
        split <;> simp
      · exact ⟨by simp, h3⟩
    · simp
set_option maxRecDepth 100000 in
theorem walks_bad1 (A : Option Addr) (n c : Nat) (root va acc : Int) (us : Bool) (w : World) (h : ¬ (1 ≤ n ∧ n ≤ 64)) :
    Calls Try.prog 3 #[.agg #[.slice A n c], .int .u32 root, .int .u32 va, .int .i64 acc, .bool us] w fun e w' => e = .returned (.bool true) ∧ Later w w' := by
  have HV := Lib.hid fun w' => rvalid_any A n c w'
  rw [decide_eq_false h] at HV
  have HN := Lib.hid fun w' => sanity_any w'
  clear h
  go_enter Try.func3, Try.ntmps3
  go_wp2_with (first
    | (go_at_call 8; refine (HV.out _).mono ?_; rintro e w1 ⟨rfl, l1⟩)
    | (go_at_call 10; refine (HN.out _).mono ?_; rintro e w2 ⟨rfl, l2⟩))
  go_ret
  exact ⟨rfl, Later.trans_ (Later.trans_ (later1 _ _) l1) l2⟩
set_option maxRecDepth 100000 in
theorem walks_bad2 (A : Option Addr) (n c : Nat) (root va acc : Int) (us : Bool) (w : World) (h1 : 1 ≤ n ∧ n ≤ 64) (h : ¬ (1 ≤ acc ∧ acc ≤ 4)) :
    Calls Try.prog 3 #[.agg #[.slice A n c], .int .u32 root, .int .u32 va, .int .i64 acc, .bool us] w fun e w' => e = .returned (.bool true) ∧ Later w w' := by
  have HV := Lib.hid fun w' => rvalid_any A n c w'
  rw [decide_eq_true h1] at HV
  have HA := Lib.hid fun w' => access_any acc w'
  rw [decide_eq_false h] at HA
  have HN := Lib.hid fun w' => sanity_any w'
  clear h h1
  go_enter Try.func3, Try.ntmps3
  go_wp2_with (first
    | (go_at_call 8; refine (HV.out _).mono ?_; rintro e w1 ⟨rfl, l1⟩)
    | (go_at_call 9; refine (HA.out _).mono ?_; rintro e w3 ⟨rfl, rfl⟩)
    | (go_at_call 10; refine (HN.out _).mono ?_; rintro e w2 ⟨rfl, l2⟩))
  go_ret
  exact ⟨rfl, Later.trans_ (Later.trans_ (later1 _ _) l1) l2⟩
set_option maxRecDepth 100000 in
set_option maxHeartbeats 4000000 in
theorem walks_yes (A : Option Addr) (n c : Nat) (root va acc : Int) (us : Bool) (b : Wm.Bs) (w : World) (hs : Sl w 128 A n (U b)) (hb : Wm.isBs b) (h1 : 1 ≤ n ∧ n ≤ 64) (hr : 0 ≤ root ∧ root ≤ 4294967295) (hv : 0 ≤ va ∧ va ≤ 4294967295) (hacc : 1 ≤ acc ∧ acc ≤ 4) :
    Calls Try.prog 3 #[.agg #[.slice A n c], .int .u32 root, .int .u32 va, .int .i64 acc, .bool us] w fun e w' => e = .returned (.bool true) ∧ Later w w' := by
  have HV := Lib.hid fun w' => rvalid_any A n c w'
  rw [decide_eq_true h1] at HV
  have HA := Lib.hid fun w' => access_any acc w'
  rw [decide_eq_true hacc] at HA
  have HN := Lib.hid fun w' => sanity_any w'
  obtain ⟨g1, g2⟩ := walk_len n b root va acc us
  have KR0 := fun w' (hl : Later w w') => rwalk_any A n c root va acc us b w' (hs.keep hl) hb h1 hr hv hacc
  obtain ⟨X, hX⟩ : ∃ X, Tm.walk n b root va acc us = X := ⟨_, rfl⟩
  obtain ⟨ca, hca⟩ : ∃ ca, (if X.ok then 0 else Tm.cause acc) = ca := ⟨_, rfl⟩
  have KW := Lib.hid fun w' hl => walk_got A n c root va acc us b w hs hb h1 hr hv X hX ca hca w' hl
  rw [hX] at g1 g2 KR0
  rw [hca] at KR0
  have KR := Lib.hid fun w' (hl : Later w w') => (KR0 w' hl).mono (R' := GotRX X.a X.l X.s X.r X.s.length X.r.length ca w') fun _ _ h => h
  clear KR0 hX hca
  obtain ⟨S, hS⟩ : ∃ x, x = X.s := ⟨_, rfl⟩
  obtain ⟨R, hR⟩ : ∃ x, x = X.r := ⟨_, rfl⟩
  obtain ⟨xa, hxa⟩ : ∃ x, x = X.a := ⟨_, rfl⟩
  obtain ⟨xl, hxl⟩ : ∃ x, x = X.l := ⟨_, rfl⟩
  rw [← hS, ← hR, ← hxa, ← hxl] at KW KR
  rw [← hS] at g1
  rw [← hR] at g2
  clear hS hR hxa hxl
  obtain ⟨ns, hns⟩ : ∃ x, S.length = x := ⟨_, rfl⟩
  obtain ⟨nr, hnr⟩ : ∃ x, R.length = x := ⟨_, rfl⟩
  rw [hns] at g1
  rw [hnr] at g2
  rw [hns, hnr] at KW KR
  clear hs hb h1 hr hv hacc
  go_enter Try.func3, Try.ntmps3
  go_wp2_with (first
    | (go_at_call 8; refine (HV.out _).mono ?_; rintro e w1 ⟨rfl, l1⟩; have b3 := (Blk.new w 24 #[.slice A n c] [.slice A n c] rfl).keep l1; have lw := Later.trans_ (later1 w (.cells #[.slice A n c] 24)) l1; have c3 := b3.cell (j := 0) (v := .slice A n c) rfl)
    | (go_at_call 9; refine (HA.out _).mono ?_; rintro e w3 ⟨rfl, rfl⟩)
    | (go_at_call 11; (with_reducible refine (KW.out _ lw).mono ?_); rintro e v1 ⟨AS, AR, sc, rc, rfl, hS, hR, z1⟩; clear c3; replace b3 := b3.keep z1; replace lw := Later.trans_ lw z1; have p1 := Blk.new v1 32 #[.int .i64 xa, .int .i64 xl, .slice AS ns sc, .slice AR nr rc] [.int .i64 xa, .int .i64 xl, .slice AS ns sc, .slice AR nr rc] rfl; have q1 := later1 v1 (.cells #[.int .i64 xa, .int .i64 xl, .slice AS ns sc, .slice AR nr rc] 32); replace b3 := b3.keep q1; replace hS := hS.keep q1; replace hR := hR.keep q1; replace lw := Later.trans_ lw q1; clear q1; have c3 := b3.cell (j := 0) (v := .slice A n c) rfl)
    | (go_at_call 12; (with_reducible refine (KR.out _ lw).mono ?_); rintro e v2 ⟨BS, BR, sd, rd, rfl, hS2, hR2, z2⟩; clear c3; replace p1 := p1.keep z2; replace hS := hS.keep z2; replace hR := hR.keep z2; replace lw := Later.trans_ lw z2; have p2 := Blk.new v2 36 #[.int .i64 xa, .int .i64 xl, .slice BS ns sd, .slice BR nr rd, .int .i64 ca] [.int .i64 xa, .int .i64 xl, .slice BS ns sd, .slice BR nr rd, .int .i64 ca] rfl; have q2 := later1 v2 (.cells #[.int .i64 xa, .int .i64 xl, .slice BS ns sd, .slice BR nr rd, .int .i64 ca] 36); replace p1 := p1.keep q2; replace hS := hS.keep q2; replace hR := hR.keep q2; replace hS2 := hS2.keep q2; replace hR2 := hR2.keep q2; replace lw := Later.trans_ lw q2; clear q2)
    | (go_at_call 10; refine (HN.out _).mono ?_; rintro e w9 ⟨rfl, l9⟩; replace p1 := p1.keep l9; replace p2 := p2.keep l9; replace hS := hS.keep l9; replace hR := hR.keep l9; replace hS2 := hS2.keep l9; replace hR2 := hR2.keep l9; replace lw := Later.trans_ lw l9; have f4 := p2.cell (j := 4) (v := .int .i64 ca) rfl)
    | ((with_reducible refine wpList_load_g (o := ⟨some 46, .load 32 (.tmp 11), _, _, _, _⟩) _ _ rfl v1.heap.size 32 [.int .i64 xa, .int .i64 xl, .slice AS ns sc, .slice AR nr rc] _ ?_ ?_ ?_ Try.underlying32 ?_ (walk_sz _ _ _ _) ?_); rfl; rfl; exact p1; rfl)
    | ((with_reducible refine wpList_load_atg (o := ⟨some 48, .load 32 (.tmp 47), _, _, _, _⟩) _ _ rfl v2.heap.size 0 4 36 [.int .i64 xa, .int .i64 xl, .slice BS ns sd, .slice BR nr rd, .int .i64 ca] [.int .i64 xa, .int .i64 xl, .slice BS ns sd, .slice BR nr rd] _ ?_ ?_ ?_ rfl Try.underlying32 ?_ (walk_sz _ _ _ _) ?_); rfl; rfl; exact p2; rfl)
    | (go_at_call 13; refine (wsame_any xa xl xa xl AS ns sc BS ns sd AR nr rc BR nr rd S S R R _ hns hns hnr hnr hS hS2 hR hR2 g1 g1 g2 g2).mono ?_; rintro e w8 ⟨rfl, l8⟩; replace lw := Later.trans_ lw l8))
  go_ret
  exact ⟨by simp, lw⟩
theorem walks_all (A : Option Addr) (n c : Nat) (root va acc : Int) (us : Bool) (b : Wm.Bs) (w : World) (hs : Sl w 128 A n (U b)) (hb : Wm.isBs b) (hr : 0 ≤ root ∧ root ≤ 4294967295) (hv : 0 ≤ va ∧ va ≤ 4294967295) :
    Calls Try.prog 3 #[.agg #[.slice A n c], .int .u32 root, .int .u32 va, .int .i64 acc, .bool us] w fun e w' => e = .returned (.bool true) ∧ Later w w' := by
  by_cases h1 : 1 ≤ n ∧ n ≤ 64
  · by_cases hacc : 1 ≤ acc ∧ acc ≤ 4
    · exact walks_yes A n c root va acc us b w hs hb h1 hr hv hacc
    · exact walks_bad2 A n c root va acc us w h1 hacc
  · exact walks_bad1 A n c root va acc us w h1

set_option maxRecDepth 100000 in
theorem tableWalksAsSpecified_lifted (os : Os) (started : os.Started) (H : Type) (enc : TypeId × Value → H) :
    ReturnsInHanded {} Try.checked os 3 .any (Rows.tableWalksAsSpecifiedSpec.pre6 enc Try.prog Try.f3 Rows.tableWalksAsSpecifiedRow.domain false) (Rows.tableWalksAsSpecifiedSpec.post enc Try.prog Try.f3 false true false false) := by
  refine returnsInHanded_of_change (C := Try.checked) ownK started (by kernel_rfl) Try.func3
    (ChangeSpec.witness6 (enc := enc) (C := Try.checked) false ⟨#[], #[.agg #[.slice none 0 0], .int .u32 0, .int .u32 0, .int .i64 0, .bool false], []⟩ 8 (by kernel_rfl) (by kernel_rfl) (by kernel_rfl) (by kernel_rfl)) ?_
  intro W base args ds gs before hval0 hW hcnd _
  have hval : ∀ (j : Nat) t v, Try.f3.params[j]? = some t → args[j]? = some v → Value.okWide Try.prog W .any base t v := hval0
  have hW' := hW
  obtain ⟨p, q, hA0, hV, rfl, hfz, hnd⟩ := hW
  have hA : DataW.TrodAll enc Try.prog W 0 (fun _ => true) true Try.f3.params.toList args.toList ds p := hA0
  rw [Try.params3] at hA hval
  obtain ⟨v0, vs0, d0, ds0, p0, q0, hargs, rfl, rfl, h0, r0⟩ := trodAll_cons hA
  obtain ⟨v1, vs1, d1, ds1, p1, q1, rfl, rfl, rfl, h1, r1⟩ := trodAll_cons r0
  obtain ⟨v2, vs2, d2, ds2, p2, q2, rfl, rfl, rfl, h2, r2⟩ := trodAll_cons r1
  obtain ⟨v3, vs3, d3, ds3, p3, q3, rfl, rfl, rfl, h3, r3⟩ := trodAll_cons r2
  obtain ⟨v4, vs4, d4, ds4, p4, q4, rfl, rfl, rfl, h4, r4⟩ := trodAll_cons r3
  obtain ⟨rfl, rfl, rfl⟩ := trodAll_nil r4
  obtain rfl : args = #[v0, v1, v2, v3, v4] := by cases args; simp_all
  obtain ⟨rfl, rfl⟩ := trodVars_none hV
  obtain ⟨A0, n0, c0, b0, rfl, x0, y0, s0, z0⟩ := mem_arg (K := 128) (by omega) Try.underlying24 rfl Try.underlying22 Try.underlying120 Try.underlying5 (by kernel_rfl) (by kernel_rfl) (by kernel_rfl) (by kernel_rfl) (hval 0 24 v0 rfl rfl) h0
  obtain ⟨a1, rfl, z1⟩ := u32_arg Try.underlying25 (hval 1 25 v1 rfl rfl) h1
  obtain ⟨a2, rfl, z2⟩ := u32_arg Try.underlying25 (hval 2 25 v2 rfl rfl) h2
  obtain ⟨a3, rfl, z3⟩ := int_arg Try.underlying3 (hval 3 3 v3 rfl rfl) h3
  obtain ⟨a4, rfl, rfl, rfl⟩ := open_bool Try.underlying4 (hval 4 4 v4 rfl rfl) h4
  clear hA0 hval0
  simp only [List.append_nil] at hW'
  refine (walks_all A0 n0 c0 a1 a2 a3 a4 b0 W s0 z0 z1 z2).mono fun e W' ⟨he, hw⟩ => ?_
  subst he
  exact ⟨_, rfl, law_post laidK rfl (by kernel_rfl) (by kernel_rfl) Try.underlying4 (by kernel_rfl) hW' rfl hw⟩
set_option maxRecDepth 100000 in
/-- The statement. -/
theorem tableWalksAsSpecified_said : Rows.TableWalksAsSpecifiedSaid :=
  OpenClaim.holds_of_wide 3 Try.f3 rfl rfl rfl rfl rfl rfl rfl ⟨rfl, rfl, rfl, rfl, rfl⟩ rfl rfl rfl rfl rfl (by kernel_rfl) Try.func3 (by kernel_rfl)
    (of_decide_eq_true (by kernel_rfl)) (by unfold Func.isWrapper; first | (rw [if_pos (by decide +kernel)]; kernel_rfl) | (rw [if_neg (by decide +kernel)]; exact ⟨rfl, rfl⟩))
    (fun os started H enc _ => tableWalksAsSpecified_lifted os started H enc)
#print axioms tableWalksAsSpecified_said
end Go.Proofs.Ytiaejldknbicdaa
