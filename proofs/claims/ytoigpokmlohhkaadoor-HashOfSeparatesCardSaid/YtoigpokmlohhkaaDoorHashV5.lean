/-
  TOWARDS THE STATEMENT HashOfSeparates: different inputs of Of are different bytes; its walk.
-/
import Derived.Test.YtoigpokmlohhkaaDoorHashSt
import Derived.Test.YtoigpokmlohhkaaDoorShaD
import Derived.BigQuiet
import Derived.Deep.QuietTactic
import Derived.Deep.DeepCutAuto
namespace Go.Proofs.YtoigpokmlohhkaaDoor
open Go.RowKit Go.ChangeShapes Go.WideShapes Go.ChangeAt

theorem sb_inj {s t : ByteArray} (h : sb s = sb t) : s = t := by
  unfold sb at h
  have h1 : s.data.toList = t.data.toList := (List.map_inj_right (fun x y hxy => UInt8.toNat_inj.1 (by omega))).1 h
  cases s; cases t
  simp at h1
  rw [h1]
theorem encB_inj {s t r r' : Wm.Bs} (hs : s.length ≤ 9223372036854775807) (ht : t.length ≤ 9223372036854775807) (h : Wm.encB s ++ r = Wm.encB t ++ r') : s = t ∧ r = r' := by
  have h1 := Wm.decB_encB s r hs
  have h2 := Wm.decB_encB t r' ht
  rw [h, h2] at h1
  have e : s = t := (congrArg Prod.fst h1).symm
  subst e
  exact ⟨rfl, List.append_cancel_left h⟩
theorem flat_inj : ∀ (a b : List ByteArray), (∀ s ∈ a, s.size ≤ 400) → (∀ s ∈ b, s.size ≤ 400) → (a.flatMap fun s => Wm.encB (sb s)) = (b.flatMap fun s => Wm.encB (sb s)) → a = b := by
  intro a
  induction a with
  | nil =>
    intro b _ hb h
    cases b with
    | nil => rfl
    | cons t b =>
      have h2 := congrArg List.length h
      simp only [List.flatMap_nil, List.flatMap_cons, List.length_append, List.length_nil, Wm.encB_len] at h2
      have h3 : 0 < (Wm.encI ((sb t).length : Int)).length := Wm.encN_pos _
      omega
  | cons s a ih =>
    intro b ha hb h
    cases b with
    | nil =>
      have h2 := congrArg List.length h
      simp only [List.flatMap_nil, List.flatMap_cons, List.length_append, List.length_nil, Wm.encB_len] at h2
      have h3 : 0 < (Wm.encI ((sb s).length : Int)).length := Wm.encN_pos _
      omega
    | cons t b =>
      simp only [List.flatMap_cons] at h
      obtain ⟨e1, e2⟩ := encB_inj (by have := ha s List.mem_cons_self; rw [sb_len]; omega) (by have := hb t List.mem_cons_self; rw [sb_len]; omega) h
      rw [sb_inj e1, ih b (fun x hx => ha x (List.mem_cons_of_mem _ hx)) (fun x hx => hb x (List.mem_cons_of_mem _ hx)) e2]
theorem inputB_inj {t s : Int} {a b : List ByteArray} (ht : 0 ≤ t ∧ t ≤ 255) (hs : 0 ≤ s ∧ s ≤ 255) (ha : ∀ s ∈ a, s.size ≤ 400) (hb : ∀ s ∈ b, s.size ≤ 400) (h : inputB t a = inputB s b) : t = s ∧ a = b := by
  unfold inputB at h
  simp only [List.cons_append, List.nil_append, List.cons.injEq] at h
  exact ⟨by omega, flat_inj a b ha hb h.2⟩
theorem ofN_inj {x y : Wm.Bs} (hx : Wm.isBs x) (hy : Wm.isBs y) (h : strOfNums x = strOfNums y) : x = y := by
  rw [← sb_ofN hx, ← sb_ofN hy, h]

theorem toList_eqb (x y : ByteArray) : (x.toList == y.toList) = decide (x = y) := by
  rw [ByteArray.toList_eq, ByteArray.toList_eq]
  by_cases h : x = y
  · subst h; simp
  · have h2 : ¬ x.data = y.data := fun e => h (by cases x; cases y; simp at e; rw [e])
    simp [h, h2]
theorem ClashB_next {g h : Wm.Bs} {k : Nat} {x y : Int} {hk : k < g.length} (hg : g.take (k + 1) = g.take k ++ [x]) (hh : h.take (k + 1) = h.take k ++ [y]) (hkh : k < h.length) :
    decide (g.take (k + 1) = h.take (k + 1)) = (decide (g.take k = h.take k) && decide (x = y)) := by
  rw [hg, hh]
  by_cases e1 : g.take k = h.take k
  · rw [e1]; simp
  · have : ¬ (g.take k ++ [x] = h.take k ++ [y]) := fun e => e1 (List.append_inj_left e (by rw [List.length_take, List.length_take]; omega))
    rw [decide_eq_false this, decide_eq_false e1]; rfl
/-- Whether the parts are the same, so far. -/
def SameB (t s : Int) (a b : List ByteArray) (k : Nat) : Bool := decide (t = s) && decide (a.length = b.length) && decide (a.take k = b.take k)
theorem SameB.next {t s : Int} {a b : List ByteArray} {k : Nat} {x y : ByteArray} (h : true = SameB t s a b k) (ha : a.take (k + 1) = a.take k ++ [x]) (hb : b.take (k + 1) = b.take k ++ [y]) : SameB t s a b (k + 1) = decide (x = y) ∧ a.length = b.length := by
  unfold SameB at h
  have h := h.symm
  rw [Bool.and_eq_true, Bool.and_eq_true, decide_eq_true_eq, decide_eq_true_eq, decide_eq_true_eq] at h
  obtain ⟨⟨h1, h2⟩, h3⟩ := h
  refine ⟨?_, h2⟩
  unfold SameB
  rw [decide_eq_true h1, decide_eq_true h2, ha, hb, h3]
  simp
/-- Whether the first bytes are the same, so far. -/
def ClashB (g h : Wm.Bs) (k : Nat) : Bool := decide (g.take k = h.take k)

set_option maxRecDepth 100000 in
set_option maxHeartbeats 2000000 in
theorem lawSep_any (t s : Int) (A : Option Addr) (n c : Nat) (a : List ByteArray) (B : Option Addr) (m d : Nat) (b : List ByteArray) (w : World) (tab : Tab w) (hs : Sl w 1 A n (Strs a)) (hn : n ≤ maxLen) (hz : ∀ s ∈ a, s.size ≤ maxLen)
    (hs2 : Sl w 1 B m (Strs b)) (hm : m ≤ maxLen) (hz2 : ∀ s ∈ b, s.size ≤ maxLen) (ht : 0 ≤ t ∧ t ≤ 255) (hq : 0 ≤ s ∧ s ≤ 255) :
    Calls Tryd.prog 7 #[.agg #[.int .u8 t, .int .u8 s], .slice A n c, .slice B m d] w fun e w' => e = .returned (.bool true) ∧ Later w w' := by
  have HS := Lib.hid fun w' (hl : Later w w') => sanity_any w' (tab.keep hl)
  obtain ⟨F1, hF1⟩ : ∃ F, F = fewB a := ⟨_, rfl⟩
  obtain ⟨F2, hF2⟩ : ∃ F, F = fewB b := ⟨_, rfl⟩
  have HW1 := Lib.hid fun w' (hw : Later w w') => by have h := few_any A n c a w' (hs.keep hw) hn hz; rw [← hF1] at h; exact h
  have HW2 := Lib.hid fun w' (hw : Later w w') => by have h := few_any B m d b w' (hs2.keep hw) hm hz2; rw [← hF2] at h; exact h
  have hbox : ∀ o, Later w (w.alloc o) := fun o => (Below.refl _ _).alloc (Nat.le_refl _) o
  unfold maxLen at hn hm
  by_cases hF : F1 = true ∧ F2 = true
  case neg =>
    have hFF : F1 = false ∨ (F1 = true ∧ F2 = false) := by cases F1 <;> cases F2 <;> simp_all
    clear hF tab hs hs2
    rcases hFF with rfl | ⟨rfl, rfl⟩
    all_goals
      clear hF1 hF2
      go_enter Tryd.func7, Tryd.ntmps7
      go_wp2_with (first
        | (go_at_call 14; refine (HS.out _ (hbox _)).mono ?_; rintro e w1 ⟨rfl, l1⟩; have l1' := Later.trans_ (hbox _) l1)
        | (go_at_call 15; (with_reducible refine (HW1.out w1 l1').mono ?_); rintro e w2 ⟨rfl, rfl⟩)
        | (go_at_call 15; (with_reducible refine (HW2.out w1 l1').mono ?_); rintro e w2 ⟨rfl, rfl⟩))
      go_ret
      exact ⟨rfl, l1'⟩
  case pos =>
    obtain ⟨rfl, rfl⟩ := hF
    have hla := hs.slen
    have hlb := hs2.slen
    have few : ∀ l : List ByteArray, true = fewB l → l.length ≤ 12 ∧ ∀ s ∈ l, s.size ≤ 400 := fun l h => by
      unfold fewB at h
      have h := h.symm
      rw [Bool.and_eq_true, decide_eq_true_eq, List.all_eq_true] at h
      exact ⟨h.1, fun s hs => of_decide_eq_true (h.2 s hs)⟩
    obtain ⟨hna, halla⟩ := few a hF1
    obtain ⟨hnb, hallb⟩ := few b hF2
    have hn12 : n ≤ 12 := by omega
    have hm12 : m ≤ 12 := by omega
    obtain ⟨FL, hFL⟩ : ∃ FL, FL = decide (t = s ∧ a = b) := ⟨_, rfl⟩
    have IA := Lib.hid (fun w' (hl : Later w w') => madeV_as (refInput_any t A n c a w' (hs.keep hl) halla (by omega)))
    have IB := Lib.hid (fun w' (hl : Later w w') => madeV_as (refInput_any s B m d b w' (hs2.keep hl) hallb (by omega)))
    have OA := Lib.hid (fun w' (hl : Later w w') => of_any t A n c a w' (hs.keep hl) halla (by omega) (tab.keep hl))
    have OB := Lib.hid (fun w' (hl : Later w w') => of_any s B m d b w' (hs2.keep hl) hallb (by omega) (tab.keep hl))
    have xl := inputB_le t a halla
    have yl := inputB_le s b hallb
    have hinj : FL = false → inputB t a ≠ inputB s b := fun h1 h2 => by
      have h3 := inputB_inj ht hq halla hallb h2
      rw [hFL, decide_eq_true h3] at h1; cases h1
    have hsame : FL = true → inputB t a = inputB s b := fun h1 => by
      rw [hFL] at h1
      obtain ⟨rfl, rfl⟩ := of_decide_eq_true h1
      rfl
    obtain ⟨X, hX⟩ : ∃ X, X = inputB t a := ⟨_, rfl⟩
    obtain ⟨Y, hY⟩ : ∃ Y, Y = inputB s b := ⟨_, rfl⟩
    have hXb : Wm.isBs X := by rw [hX]; exact inputB_bs _ _
    have hYb : Wm.isBs Y := by rw [hY]; exact inputB_bs _ _
    have eX : (shaC (inputB t a)).take 16 = U (digOf X) := by rw [hX, U_digOf]
    have eY : (shaC (inputB s b)).take 16 = U (digOf Y) := by rw [hY, U_digOf]
    rw [eX] at OA
    rw [eY] at OB
    rw [← hX] at IA xl hinj hsame
    rw [← hY] at IB yl hinj hsame
    have hend : ∀ k, k = n ∨ SameB t s a b k = false → SameB t s a b k = FL := fun k hk => by
      rw [hFL]
      unfold SameB
      rcases hk with rfl | hk
      · by_cases h1 : t = s <;> by_cases h2 : a.length = b.length
        · have h3 : a.take k = a := List.take_of_length_le (by omega)
          have h4 : b.take k = b := List.take_of_length_le (by omega)
          rw [h3, h4]; simp [h1, h2]
        · have : a ≠ b := fun h => h2 (by rw [h])
          simp [h1, h2, this]
        · simp [h1]
        · simp [h1]
      · unfold SameB at hk
        rw [hk]
        symm
        rw [decide_eq_false_iff_not]
        rintro ⟨rfl, rfl⟩
        simp at hk
    have hXl : X.length ≤ 5000 := by omega
    have hYl : Y.length ≤ 5000 := by omega
    have HLA := Lib.hid hla; have HLB := Lib.hid hlb; have HEND := Lib.hid hend; have HINJ := Lib.hid hinj; have HSAME := Lib.hid hsame
    have TB := Lib.hid tab
    clear hF1 hF2 few hla hlb hna hnb halla hallb hFL hX hY eX eY hend hinj hsame tab hz hz2
    clear xl yl
    go_enter Tryd.func7, Tryd.ntmps7
    go_upto_region 4 with (first
      | (go_at_call 14; refine (HS.out _ (hbox _)).mono ?_; rintro e w1 ⟨rfl, l1⟩; have l1' := Later.trans_ (hbox _) l1)
      | (go_at_call 15; (with_reducible refine (HW1.out w1 l1').mono ?_); rintro e w2 ⟨rfl, rfl⟩)
      | (go_at_call 15; (with_reducible refine (HW2.out w1 l1').mono ?_); rintro e w2 ⟨rfl, rfl⟩))
    have gb : Blk w1 w.heap.size 51 [.int .u8 t, .int .u8 s] := (Blk.new w _ _ _ rfl).keep l1
    have c0 := gb.cell (j := 0) (v := .int .u8 t) rfl
    have c1 := gb.cell (j := 1) (v := .int .u8 s) rfl
    go_cut [8] (fun s8 wx => s8 = .bool (SameB t s a b 0) ∧ w1 = wx)
    case first =>
      by_cases h1 : t = s
      · by_cases h2 : n = m
        · have e1 : (t == s) = true := by rw [beq_iff_eq]; exact h1
          have e2 : ((n : Int) == (m : Int)) = true := by rw [beq_iff_eq]; omega
          go_wp2
          go_meet
          exact ⟨by unfold SameB; rw [decide_eq_true h1, decide_eq_true (by rw [HLA.out, HLB.out]; exact h2)]; simp, rfl⟩
        · have e1 : (t == s) = true := by rw [beq_iff_eq]; exact h1
          have e2 : ((n : Int) == (m : Int)) = false := by rw [beq_eq_false_iff_ne]; omega
          go_wp2
          go_meet
          exact ⟨by unfold SameB; rw [decide_eq_true h1, decide_eq_false (by rw [HLA.out, HLB.out]; exact h2)]; simp, rfl⟩
      · have e1 : (t == s) = false := by rw [beq_eq_false_iff_ne]; exact h1
        go_wp2
        go_meet
        exact ⟨by unfold SameB; rw [decide_eq_false h1]; simp, rfl⟩
    case rest =>
      obtain ⟨rfl, rfl⟩ := hcut
      clear c0 c1 HW1 HW2 HS
      go_wp2
      go_loopw [8, 9] (fun sm i wr => ∃ k : Nat, k ≤ n ∧ i = .int .i64 k ∧ sm = .bool (SameB t s a b k) ∧ Later w1 wr) (fun _ i _ => n - (intOf i).toNat)
      case atStart => exact ⟨0, Nat.zero_le _, rfl, rfl, Below.refl _ _⟩
      case round =>
        obtain ⟨k, hk, rfl, rfl, hbr⟩ := hrel
        obtain ⟨p, hp⟩ : ∃ p, p = SameB t s a b k := ⟨_, rfl⟩
        rw [← hp]
        by_cases hgo : k < n ∧ p = true
        · obtain ⟨hkn, rfl⟩ := hgo
          have hmn : m = n := by
            unfold SameB at hp
            have h := hp.symm
            rw [Bool.and_eq_true, Bool.and_eq_true, decide_eq_true_eq, decide_eq_true_eq, decide_eq_true_eq] at h
            have := h.1.2
            rw [HLA.out, HLB.out] at this
            exact this.symm
          have hkm : k < m := by omega
          clear hmn
          obtain ⟨ad, x, rfl, hbl, hc, hmem, HX⟩ := (hs.keep (Later.trans_ l1' hbr)).str hkn
          obtain ⟨ad2, y, rfl, hbl2, hc2, hmem2, HX2⟩ := (hs2.keep (Later.trans_ l1' hbr)).str hkm
          have hnx := (SameB.next hp HX.out.1 HX2.out.1).1
          have HN := Lib.hid hnx
          have k0 : (0 : Int) ≤ (k : Int) := by omega
          have k1 : (k : Int) < (n : Int) := by omega
          have k2 : (k : Int) < (m : Int) := by omega
          clear hnx hp HX HX2
          go_wp2
          go_quiet (fail)
          go_wp2
          have hb2 : Later w1 (wr.drewN nq) := ⟨hbr.os, hbr.tape, hbr.output, hbr.size, hbr.block⟩
          go_roundw
          case rel => exact ⟨k + 1, by omega, by go_num, by rw [HN.out, toList_eqb], hb2⟩
          case measure => simp [intOf]; omega
        · have hpf : p = FL := by
            rw [hp]
            refine HEND.out k ?_
            by_cases hkn : k < n
            · right
              rw [← hp]
              cases p
              · rfl
              · exact absurd ⟨hkn, rfl⟩ hgo
            · left; omega
          have hcase : ¬ k < n ∨ (k < n ∧ p = false) := by
            by_cases hkn : k < n
            · right
              refine ⟨hkn, ?_⟩
              cases p
              · rfl
              · exact absurd ⟨hkn, rfl⟩ hgo
            · exact .inl hkn
          clear hp hgo
          subst hpf
          have m0 := Later.trans_ l1' hbr
          have d0 := (gb.keep hbr).cell (j := 0) (v := .int .u8 t) rfl
          have gt : IntKind.i64.wrap t = t := IntWalk.i64_in _ (by omega)
          have gs : IntKind.i64.wrap s = s := IntWalk.i64_in _ (by omega)
          cases p with
          | true =>
            have hkn : ¬ k < n := by rcases hcase with h | ⟨_, h⟩; exact h; cases h
            obtain rfl : X = Y := HSAME.out rfl
            clear hcase
            go_wp2_with (first
              | (go_at_call 28; (with_reducible refine (IA.out _ m0).mono ?_); rintro e w3 ⟨A1, c1, rfl, x1, x2, _, x3, x4⟩; have m3 := Later.trans_ m0 x4; have d1 := (gb.keep (Later.trans_ hbr x4)).cell (j := 1) (v := .int .u8 s) rfl)
              | (go_at_call 28; (with_reducible refine (IB.out _ m3).mono ?_); rintro e w4 ⟨A2, c2, rfl, y1, y2, _, y3, y4⟩; have m4 := Later.trans_ m3 y4; have x5 := x3.keep y4; have kx := run_str (P := Tryd.prog) 33 9 5 Tryd.underlying33 Tryd.underlying5 Tryd.underlying9 x5 c1; have ky := run_str (P := Tryd.prog) 33 9 5 Tryd.underlying33 Tryd.underlying5 Tryd.underlying9 y3 c2))
            go_ret
            exact ⟨rfl, m4⟩
          | false =>
            have hne := HINJ.out rfl
            obtain ⟨GX, hGX⟩ : ∃ x, x = iv8 (Hs.sha (bv X)) := ⟨_, rfl⟩
            obtain ⟨GY, hGY⟩ : ∃ x, x = iv8 (Hs.sha (bv Y)) := ⟨_, rfl⟩
            have lX : GX.length = 32 := by rw [hGX]; exact sha_len _
            have lY : GY.length = 32 := by rw [hGY]; exact sha_len _
            have bX : Wm.isBs GX := by rw [hGX]; exact iv8_bs _
            have bY : Wm.isBs GY := by rw [hGY]; exact iv8_bs _
            have sX : shaC X = U GX := by rw [hGX]; rfl
            have sY : shaC Y = U GY := by rw [hGY]; rfl
            have oX : digOf X = GX.take 16 := by rw [hGX]; rfl
            have oY : digOf Y = GY.take 16 := by rw [hGY]; rfl
            have SMX := Lib.hid fun (w' : World) (Z : Option Addr) (c' : Nat) (hz : Sl w' 1 Z X.length (U X)) (h1 : X.length ≤ c') (h2 : c' ≤ maxLen) (hl : Later w w') => by
              have h := hsum_any Z X.length c' X w' hz hXb h1 (by unfold maxLen at h2; omega) (by omega) (TB.out.keep hl); rw [sX] at h; exact h
            have SMY := Lib.hid fun (w' : World) (Z : Option Addr) (c' : Nat) (hz : Sl w' 1 Z Y.length (U Y)) (h1 : Y.length ≤ c') (h2 : c' ≤ maxLen) (hl : Later w w') => by
              have h := hsum_any Z Y.length c' Y w' hz hYb h1 (by unfold maxLen at h2; omega) (by omega) (TB.out.keep hl); rw [sY] at h; exact h
            have eqd : ∀ w' : World, (Op.equalIn 10000 47 (.agg (U (digOf X)).toArray) (.agg (U (digOf Y)).toArray)).run Tryd.prog w' = .ok (decide (digOf X = digOf Y)) w' := fun w' => dig_eq (digOf_len _) (digOf_len _) w'
            have hcl : decide (GX.take 16 = GY.take 16) = decide (digOf X = digOf Y) := by rw [oX, oY]
            have HCL := Lib.hid hcl
            have hstr : ((strOfNums X).toList == (strOfNums Y).toList) = false := by
              rw [toList_eqb, decide_eq_false (fun h => hne (ofN_inj hXb hYb h))]
            have hgd : Tryd.prog.eqGuardType Tryd.prog.depth 47 = false := by kernel_rfl
            obtain ⟨DX, hDX⟩ : ∃ x, x = U (digOf X) := ⟨_, rfl⟩
            obtain ⟨DY, hDY⟩ : ∃ x, x = U (digOf Y) := ⟨_, rfl⟩
            have zX : (Tryd.prog.info? 47).map (·.size) = some DX.length := by rw [hDX, U_length, digOf_len]; kernel_rfl
            have zY : (Tryd.prog.info? 47).map (·.size) = some DY.length := by rw [hDY, U_length, digOf_len]; kernel_rfl
            have pX : (PartB [] 16).length = DX.length := by rw [hDX, U_length, digOf_len]; rfl
            have pY : (PartB [] 16).length = DY.length := by rw [hDY, U_length, digOf_len]; rfl
            have qX : ∀ v ∈ DX, v.oneCell' = true := by rw [hDX]; exact U_one _
            have qY : ∀ v ∈ DY, v.oneCell' = true := by rw [hDY]; exact U_one _
            have zG : (Tryd.prog.info? 35).map (·.size) = some (U GX).length := by rw [U_length, lX]; kernel_rfl
            have zH : (Tryd.prog.info? 35).map (·.size) = some (U GY).length := by rw [U_length, lY]; kernel_rfl
            have pG : (PartB [] 32).length = (U GX).length := by rw [U_length, lX]; rfl
            have pH : (PartB [] 32).length = (U GY).length := by rw [U_length, lY]; rfl
            rw [← hDX] at OA eqd
            rw [← hDY] at OB eqd
            obtain ⟨dd, hdd⟩ : ∃ x, x = decide (digOf X = digOf Y) := ⟨_, rfl⟩
            rw [← hdd] at eqd HCL
            have ZX := Lib.hid zX; have ZY := Lib.hid zY; have PX := Lib.hid pX; have PY := Lib.hid pY; have QX := Lib.hid qX; have QY := Lib.hid qY
            have ZG := Lib.hid zG; have ZH := Lib.hid zH; have PG := Lib.hid pG; have PH := Lib.hid pH; have LX := Lib.hid lX; have LY := Lib.hid lY
            have EQD := Lib.hid eqd; have HSTR := Lib.hid hstr
            have hu47 := Tryd.underlying47
            have HU := Lib.hid hu47
            clear hGX hGY sX sY oX oY hcl hstr hDX hDY hdd zX zY pX pY qX qY zG zH pG pH lX lY eqd hu47 hne HINJ HSAME
            rcases hcase with hkn | ⟨hkn, _⟩
            all_goals
              go_wp2_with (first
                | (go_at_call 28; (with_reducible refine (IA.out _ m0).mono ?_); rintro e w3 ⟨A1, c1, rfl, x1, x2, _, x3, x4⟩; have m3 := Later.trans_ m0 x4; have d1 := (gb.keep (Later.trans_ hbr x4)).cell (j := 1) (v := .int .u8 s) rfl)
                | (go_at_call 28; (with_reducible refine (IB.out _ m3).mono ?_); rintro e w4 ⟨A2, c2, rfl, y1, y2, _, y3, y4⟩; have m4 := Later.trans_ m3 y4; have x5 := x3.keep y4; have e0 := (gb.keep (Later.trans_ (Later.trans_ hbr x4) y4)).cell (j := 0) (v := .int .u8 t) rfl; have kx := run_str (P := Tryd.prog) 33 9 5 Tryd.underlying33 Tryd.underlying5 Tryd.underlying9 x5 c1; have ky := run_str (P := Tryd.prog) 33 9 5 Tryd.underlying33 Tryd.underlying5 Tryd.underlying9 y3 c2)
                | (go_at_call 26; (with_reducible refine (OA.out _ m4).mono ?_); rintro e w5 ⟨rfl, l5⟩; have m5 := Later.trans_ m4 l5; clear kx ky)
                | ((with_reducible refine wpList_store_abs (o := ⟨none, .store 47 (.tmp 12) (.tmp 81), _, _, _, none⟩) rfl _ _ _ rfl w5.heap.size 47 (PartB [] 16) DX ?_ ?_ ?_ ZX.out PX.out QX.out ?_); rfl; rfl; exact Blk.new _ _ _ _ rfl; intro w6 b12 o12; have m6 : Later w w6 := Below.only (m5.alloc m5.size _) o12 m5.size; have j6 : Later w1 w6 := Below.only ((Later.trans_ (Later.trans_ (Later.trans_ hbr x4) y4) l5).alloc (Later.trans_ (Later.trans_ (Later.trans_ hbr x4) y4) l5).size _) o12 (Later.trans_ (Later.trans_ (Later.trans_ hbr x4) y4) l5).size; have e1 := (gb.keep j6).cell (j := 1) (v := .int .u8 s) rfl; have k6 : Later w4 w6 := Below.only (l5.alloc l5.size _) o12 l5.size)
                | (go_at_call 26; (with_reducible refine (OB.out _ m6).mono ?_); rintro e w7 ⟨rfl, l7⟩; have m7 := Later.trans_ m6 l7)
                | ((with_reducible refine wpList_store_abs (o := ⟨none, .store 47 (.tmp 13) (.tmp 86), _, _, _, none⟩) rfl _ _ _ rfl w7.heap.size 47 (PartB [] 16) DY ?_ ?_ ?_ ZY.out PY.out QY.out ?_); rfl; rfl; exact Blk.new _ _ _ _ rfl; intro w8 b13 o13; have m8 : Later w w8 := Below.only (m7.alloc m7.size _) o13 m7.size; have b12' := ((b12.keep l7).alloc (.cells (PartB [] 16).toArray 47)).only o13 (Nat.ne_of_lt (b12.keep l7).lt); have k8 : Later w4 w8 := Below.only ((Later.trans_ k6 l7).alloc (Later.trans_ k6 l7).size _) o13 (Later.trans_ k6 l7).size; have x8 := x5.keep k8; have y8 := y3.keep k8)
                | (go_at_call 21; (with_reducible refine (SMX.out _ _ _ x8 x1 x2 m8).mono ?_); rintro e w9 ⟨rfl, l9⟩; have m9 := Later.trans_ m8 l9)
                | ((with_reducible refine wpList_store_abs (o := ⟨none, .store 35 (.tmp 14) (.tmp 88), _, _, _, none⟩) rfl _ _ _ rfl w9.heap.size 35 (PartB [] 32) (U GX) ?_ ?_ ?_ ZG.out PG.out (U_one _) ?_); rfl; rfl; exact Blk.new _ _ _ _ rfl; intro wa b14 o14; have ma : Later w wa := Below.only (m9.alloc m9.size _) o14 m9.size; have ka : Later w8 wa := Below.only (l9.alloc l9.size _) o14 l9.size; have ya := y8.keep ka)
                | (go_at_call 21; (with_reducible refine (SMY.out _ _ _ ya y1 y2 ma).mono ?_); rintro e wb ⟨rfl, lb⟩; have mb := Later.trans_ ma lb)
                | ((with_reducible refine wpList_store_abs (o := ⟨none, .store 35 (.tmp 15) (.tmp 90), _, _, _, none⟩) rfl _ _ _ rfl wb.heap.size 35 (PartB [] 32) (U GY) ?_ ?_ ?_ ZH.out PH.out (U_one _) ?_); rfl; rfl; exact Blk.new _ _ _ _ rfl; intro wc b15 o15; have mc : Later w wc := Below.only (mb.alloc mb.size _) o15 mb.size; have kc : Later w8 wc := Below.only ((Later.trans_ ka lb).alloc (Later.trans_ ka lb).size _) o15 (Later.trans_ ka lb).size; have b14' := ((b14.keep lb).alloc (.cells (PartB [] 32).toArray 35)).only o15 (Nat.ne_of_lt (b14.keep lb).lt)))
              have xc := x8.keep kc
              have yc := y8.keep kc
              have f12 := b12'.keep kc
              have f13 := b13.keep kc
              clear b12 b12' b13 b14 o12 o13 o14 o15 x3 x4 x5 y3 y4 x8 y8 ya l5 l7 l9 lb k6 k8 ka kc j6 e0 e1 d0 d1 m3 m4 m5 m6 m7 m8 m9 ma mb SMX SMY IA IB OA OB
              obtain ⟨B12, hB12⟩ : ∃ b, b = w5.heap.size := ⟨_, rfl⟩
              obtain ⟨B13, hB13⟩ : ∃ b, b = w7.heap.size := ⟨_, rfl⟩
              obtain ⟨B14, hB14⟩ : ∃ b, b = w9.heap.size := ⟨_, rfl⟩
              obtain ⟨B15, hB15⟩ : ∃ b, b = wb.heap.size := ⟨_, rfl⟩
              rw [← hB12] at f12 ⊢
              rw [← hB13] at f13 ⊢
              rw [← hB14] at b14' ⊢
              rw [← hB15] at b15 ⊢
              clear hB12 hB13 hB14 hB15
              go_loopw [16, 17] (fun sm i wr => ∃ k : Nat, k ≤ 16 ∧ i = .int .i64 k ∧ sm = .bool (decide (GX.take k = GY.take k)) ∧ Later wc wr) (fun _ i _ => 16 - (intOf i).toNat)
              case atStart => exact ⟨0, by omega, rfl, by simp, Below.refl _ _⟩
              case round =>
                clear hbr
                obtain ⟨j, hj, rfl, rfl, hbr⟩ := hrel
                by_cases hlt : j < 16
                · obtain ⟨xv, cx, _, _, HX⟩ := (b14'.keep hbr).byte bX j (by rw [LX.out]; omega)
                  obtain ⟨yv, cy, _, _, HY⟩ := (b15.keep hbr).byte bY j (by rw [LY.out]; omega)
                  have tk : ∀ (g : Wm.Bs) (v : Int), g.length = 32 → g.getD j 0 = v → g.take (j + 1) = g.take j ++ [v] := fun g v hl hv => by
                    rw [List.take_succ_eq_append_getElem (by omega)]
                    congr 2
                    rw [← hv, List.getD_eq_getElem?_getD, List.getElem?_eq_getElem (by omega)]; rfl
                  have hnx := ClashB_next (hk := by rw [LX.out]; omega) (tk GX xv LX.out HX.out) (tk GY yv LY.out HY.out) (by rw [LY.out]; omega)
                  have HN := Lib.hid hnx
                  obtain ⟨q, hq'⟩ : ∃ q, q = decide (GX.take j = GY.take j) := ⟨_, rfl⟩
                  rw [← hq'] at HN ⊢
                  have k0 : (0 : Int) ≤ (j : Int) := by omega
                  have k1 : (j : Int) < 16 := by omega
                  have k2 : (j : Int) < 32 := by omega
                  clear hnx tk HX HY hq'
                  cases q
                  all_goals
                    go_wp2
                    go_quiet (fail)
                    go_wp2
                    have hb2 : Later wc (wr.drewN nq) := ⟨hbr.os, hbr.tape, hbr.output, hbr.size, hbr.block⟩
                    go_roundw
                    case rel => exact ⟨j + 1, by omega, by go_num, by rw [HN.out]; simp [Bool.beq_eq_decide_eq], hb2⟩
                    case measure => simp [intOf]; omega
                · obtain rfl : j = 16 := by omega
                  rw [HCL.out]
                  have eqd := EQD.out
                  have hstr := HSTR.out
                  have kx := run_str (P := Tryd.prog) 33 9 5 Tryd.underlying33 Tryd.underlying5 Tryd.underlying9 (xc.keep hbr) c1
                  have ky := run_str (P := Tryd.prog) 33 9 5 Tryd.underlying33 Tryd.underlying5 Tryd.underlying9 (yc.keep hbr) c2
                  go_wp2_with (first
                    | ((with_reducible refine wpList_load_g (o := ⟨some 114, .load 47 (.tmp 12), _, _, _, _⟩) _ _ rfl B12 47 DX _ ?_ ?_ (f12.keep hbr) HU.out ?_ ZX.out ?_); rfl; rfl; rfl)
                    | ((with_reducible refine wpList_load_g (o := ⟨some 115, .load 47 (.tmp 13), _, _, _, _⟩) _ _ rfl B13 47 DY _ ?_ ?_ (f13.keep hbr) HU.out ?_ ZY.out ?_); rfl; rfl; rfl))
                  go_ret
                  exact ⟨ret_bool (by simp), Later.trans_ mc hbr⟩
end Go.Proofs.YtoigpokmlohhkaaDoor
