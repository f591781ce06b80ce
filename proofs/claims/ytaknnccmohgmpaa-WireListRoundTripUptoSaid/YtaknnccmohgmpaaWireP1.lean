/-
  For every integer, decoding its encoding, with whatever bytes behind it, gives the integer and the length, from 1 to 10: the statement WireIntRoundTrip, for every integer and every tail.
-/
import Derived.Test.YtaknnccmohgmpaaWireL
namespace Go.Proofs.Ytaknnccmohgmpaa
open Go.RowKit Go.ChangeShapes Go.WideShapes Go.ChangeAt

/-- append, onto a slice without spare places, of whatever slice. -/
theorem run_app_full {P : Program} (w : World) (t ty e : TypeId) (i : TypeInfo) (z : Value) (size bytes : Nat) (ht : P.underlying t = some (.slice e)) (hi : P.info? e = some i) (hz : i.zero = some z)
    (hsize : i.size = size) (hby : i.bytes = bytes) (hzs : z.cells.size = size) (hsz : 0 < size)
    (A : Option Addr) (n : Nat) (olds : List Value) (hn : 0 < n) (hs : Sl w size A n olds) (hnm : n ≤ maxLen)
    (A2 : Option Addr) (m c2 : Nat) (news : List Value) (hs2 : Sl w size A2 m news)
    (h63 : n + m ≤ maxLen) (hbytes : (n + m) * bytes ≤ 140737488355328) :
    ∃ A' c' w', (Builtin.append_ #[t, t] ty #[.slice A n n, .slice A2 m c2]).run P w = .ok (.slice A' (n + m) c') w' ∧ n + m ≤ c' ∧ c' ≤ maxLen ∧ Sl w' size A' (n + m) (olds ++ news) ∧ Later w w' := by
  obtain ⟨b, rfl, hbl, hcb⟩ := hs.2 hn
  rcases Nat.eq_zero_or_pos m with h0 | h0
  · subst h0
    obtain rfl : news = [] := List.eq_nil_of_length_eq_zero (by have := hs2.1; simpa using this)
    refine ⟨some b, n, w, ?_, Nat.le_refl _, hnm, by simpa using hs, Below.refl _ _⟩
    cases A2 with
    | none => simp [Builtin.append_, run_underlying ht, sizeOf, typeInfo, hi, Builtin.lenOf, Builtin.firstCells, storeCells]
    | some a2 => simp [Builtin.append_, run_underlying ht, sizeOf, typeInfo, hi, Builtin.lenOf, Builtin.firstCells, storeCells, loadCells, loadCellsFrom]
  · obtain ⟨ad, rfl, _, hc⟩ := hs2.2 h0
    obtain ⟨v', w', hrun, r1, r2⟩ := run_append_arg_grows (P := P) w t ty e i z size bytes ht hi hz hsize hby hzs hsz b n n olds hs.1 hcb ad m c2 news hs2.1 hc (by omega) h63 hbytes
    obtain ⟨A', c', rfl, g1, g2, g3, _⟩ := own_form r1
    exact ⟨A', c', w', hrun, g1, g2, g3, (Below.refl _ _).grown r2 (Nat.le_refl _) (fun k hk => by cases hk)⟩

theorem wpList_app_full {P : Program} (w : World) {ops : Array Oper} {rest : List Oper} {o : Oper} {a : Act} {Q : Exit → Act → World → Prop} (hgd : o.guard = none) (s x : Operand) (t : TypeId)
    (ho : o.op = .call { callee := .builtin .append, args := #[s, x], argTypes := #[t, t] })
    (e : TypeId) (i : TypeInfo) (z : Value) (size bytes : Nat) (ht : P.underlying t = some (.slice e)) (hi : P.info? e = some i) (hz : i.zero = some z)
    (hsize : i.size = size) (hby : i.bytes = bytes) (hzs : z.cells.size = size) (hsz : 0 < size)
    (A : Option Addr) (n : Nat) (olds : List Value) (hsv : a.eval s = .slice A n n) (hn : 0 < n) (hs : Sl w size A n olds) (hnm : n ≤ maxLen)
    (A2 : Option Addr) (m c2 : Nat) (news : List Value) (hx : a.eval x = .slice A2 m c2) (hs2 : Sl w size A2 m news)
    (h63 : n + m ≤ maxLen) (hbytes : (n + m) * bytes ≤ 140737488355328)
    (h : ∀ A' c' w', n + m ≤ c' → c' ≤ maxLen → Sl w' size A' (n + m) (olds ++ news) → Later w w' → wpList P ops Q rest (a.put o.dst (.slice A' (n + m) c')) w') : wpList P ops Q (o :: rest) a w := by
  refine wpList_plain hgd fun K hK => ?_
  obtain ⟨A', c', w', hr, h1, h2, h3, h4⟩ := run_app_full (P := P) w t o.type e i z size bytes ht hi hz hsize hby hzs hsz A n olds hn hs hnm A2 m c2 news hs2 h63 hbytes
  unfold Oper.wp execOp
  simp only [ho, resolve, invoke, builtin, Sem.run_bind, Sem.run_pure, Result.andThen_ok, List.map_toArray, List.map_cons, List.map_nil, hsv, hx, hr]
  exact hK _ _ (h A' c' w' h1 h2 h3 h4)

/-- What a maker of bytes answers, its length named. -/
def MadeLen (k : Nat) (bs : Wm.Bs) (w : World) (e : Ending) (w' : World) : Prop := ∃ A c, e = .returned (.slice A k c) ∧ k ≤ c ∧ c ≤ maxLen ∧ Sl w' 1 A k (U bs) ∧ Later w w'
theorem made_len {f : FuncId} {args : Array Value} {bs : Wm.Bs} {w : World} {k : Nat} (h : Calls Try.prog f args w (Made bs w)) (hk : k = bs.length) : Calls Try.prog f args w (MadeLen k bs w) := by
  subst hk
  exact (made_as h).mono fun _ _ ⟨A, c, he, h1, h2, _, h3, h4⟩ => ⟨A, c, he, h1, h2, h3, h4⟩

theorem bs_append {a b : Wm.Bs} (ha : Wm.isBs a) (hb : Wm.isBs b) : Wm.isBs (a ++ b) := fun x hx => by
  rcases List.mem_append.1 hx with h | h
  · exact ha x h
  · exact hb x h

set_option maxRecDepth 100000 in
set_option maxHeartbeats 400000 in
theorem roundTrip_any (x : Int) (A : Option Addr) (n c : Nat) (b : Wm.Bs) (w : World) (h1 : -9223372036854775808 ≤ x) (h2 : x ≤ 9223372036854775807) (hs : Sl w 1 A n (U b)) (hb : Wm.isBs b) (hn : n ≤ maxLen) :
    Calls Try.prog 6 #[.int .i64 x, .slice A n c] w fun e w' => e = .returned (.bool true) ∧ Later w w' := by
  unfold maxLen at hn
  obtain ⟨i0, hi, hz0, hz1, hz2⟩ := info_parts u8_info
  have HS := Lib.hid (sanity_any)
  by_cases hbig : 2000 < n
  · go_enter Try.func6, Try.ntmps6
    go_wp2_with (go_at_call 12; refine (HS.out _).mono ?_; rintro e w' ⟨rfl, hb'⟩)
    go_ret
    exact ⟨rfl, hb'⟩
  · have hl := Wm.encI_len h1 h2
    have hp := Wm.encI_pos x
    obtain ⟨k, hk⟩ : ∃ k, k = (Wm.encI x).length := ⟨_, rfl⟩
    have H1 := Lib.hid (made_len (wireInt_any x w h1 h2) hk)
    have hde : Wm.decI (Wm.encI x ++ b) = (x, k, 0) := by rw [hk]; exact Wm.decI_encI h1 h2 b
    rw [← hk] at hl hp
    clear hk
    have hdec := fun (w' : World) (A' : Option Addr) (c' : Nat) (h : Sl w' 1 A' (k + n) (U (Wm.encI x ++ b))) => Calls.out3 (getInt_any A' (k + n) c' (Wm.encI x ++ b) w' h (bs_append (Wm.encI_bytes x) hb) (by unfold maxLen; omega)) hde
    have HD := Lib.hid hdec; clear hdec hde
    go_enter Try.func6, Try.ntmps6
    go_wp2_with (first
      | (go_at_call 14; refine (H1.out).mono ?_; rintro e w1 ⟨A1, c1, rfl, g1, g2, g3, g4⟩)
      | (at_builtin; refine wpList_app_full _ rfl _ _ 28 rfl 5 i0 (.int .u8 0) 1 1 Try.underlying28 hi hz0 hz1 hz2 rfl (by decide) A1 k _ rfl (by omega) g3 (by unfold maxLen; omega) A n c _ rfl (hs.keep g4) (by unfold maxLen; omega) (by omega) ?_; intro A2 c2 w2 g5 g6 g7 g8)
      | (go_at_call 24; refine (HD.out w2 A2 c2 (by rw [U_append]; exact g7)).mono ?_; rintro e w3 ⟨rfl, rfl⟩)
      | (go_at_call 12; refine (HS.out _).mono ?_; rintro e w4 ⟨rfl, hb4⟩))
    go_ret
    exact ⟨ret_bool (by simp; omega), Later.trans_ (Later.trans_ g4 g8) hb4⟩

set_option maxRecDepth 100000 in
theorem roundTrip_lifted (os : Os) (started : os.Started) (H : Type) (enc : TypeId × Value → H) :
    ReturnsInHanded {} Try.checked os 6 .any (Rows.wireIntRoundTripSpec.pre6 enc Try.prog Try.f6 Rows.wireIntRoundTripRow.domain false) (Rows.wireIntRoundTripSpec.post enc Try.prog Try.f6 false true false false) := by
  refine returnsInHanded_of_change (C := Try.checked) ownK started (by kernel_rfl) Try.func6
    (ChangeSpec.witness6 (enc := enc) (C := Try.checked) false ⟨#[], #[.int .i64 0, .slice none 0 0], []⟩ 8 (by kernel_rfl) (by kernel_rfl) (by kernel_rfl) (by kernel_rfl)) ?_
  intro W base args ds gs before hval0 hW _ _
  have hval : ∀ (j : Nat) t v, Try.f6.params[j]? = some t → args[j]? = some v → Value.okWide Try.prog W .any base t v := hval0
  have hW' := hW
  obtain ⟨p, q, hA0, hV, rfl, _, _⟩ := hW
  have hA : DataW.TrodAll enc Try.prog W 0 (fun _ => true) true Try.f6.params.toList args.toList ds p := hA0
  rw [Try.params6] at hA hval
  obtain ⟨v0, v1, d0, d1, p0, p1, rfl, rfl, rfl, h0, h1⟩ := trodAll_two hA
  obtain ⟨rfl, rfl⟩ := trodVars_none hV
  obtain ⟨x, rfl, x1, x2⟩ := int_arg Try.underlying3 (hval 0 3 v0 rfl rfl) h0
  obtain ⟨A, n, c, b, rfl, b1, b2, b3, b4⟩ := bytes_arg Try.underlying28 Try.underlying5 (by kernel_rfl) (hval 1 28 v1 rfl rfl) h1
  clear hA0 hval0
  refine (roundTrip_any x A n c b W x1 x2 b3 b4 (by omega)).mono fun e W' ⟨he, hw⟩ => ?_
  subst he
  exact ⟨_, rfl, law_post laidK rfl (by kernel_rfl) (by kernel_rfl) Try.underlying4 (by kernel_rfl) hW' rfl hw⟩

theorem roundTrip_holds : Rows.WireIntRoundTripSaid :=
  OpenClaim.holds_of_wide 6 Try.f6 rfl rfl rfl rfl rfl rfl rfl ⟨rfl, rfl, rfl, rfl, rfl⟩ rfl rfl rfl rfl rfl (by kernel_rfl) Try.func6 (by kernel_rfl)
    (of_decide_eq_true (by kernel_rfl)) (by unfold Func.isWrapper; first | (rw [if_pos (by decide +kernel)]; kernel_rfl) | (rw [if_neg (by decide +kernel)]; exact ⟨rfl, rfl⟩))
    (fun os started H enc _ => roundTrip_lifted os started H enc)
#print axioms roundTrip_holds

end Go.Proofs.Ytaknnccmohgmpaa
