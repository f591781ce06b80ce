/-
  For every string and list of integers, of at most 2000 bytes and elements in all, their encodings, one behind the other, are decoded one behind the other: the statement WireConcat.
-/
import Derived.Test.YtaknnccmohgmpaaWireM
namespace Go.Proofs.Ytaknnccmohgmpaa
open Go.RowKit Go.ChangeShapes Go.WideShapes Go.ChangeAt

/-- append, onto a slice that the call owns, of whatever slice; the new slice written out. -/
theorem wpList_app_as {P : Program} (w : World) {ops : Array Oper} {rest : List Oper} {o : Oper} {a : Act} {Q : Exit → Act → World → Prop} (hgd : o.guard = none) (s x : Operand) (t : TypeId)
    (ho : o.op = .call { callee := .builtin .append, args := #[s, x], argTypes := #[t, t] })
    (base : Nat) (e : TypeId) (i : TypeInfo) (z : Value) (size bytes : Nat) (ht : P.underlying t = some (.slice e)) (hi : P.info? e = some i) (hz : i.zero = some z)
    (hsize : i.size = size) (hby : i.bytes = bytes) (hzs : z.cells.size = size) (hsz : 0 < size)
    (v : Value) (n : Nat) (xs : List Value) (hsv : a.eval s = v) (hown : w.ownsRow base e size v n xs)
    (A : Option Addr) (m c : Nat) (news : List Value) (hx : a.eval x = .slice A m c) (hs : Sl w size A m news) (h1 : ∀ u ∈ news, u.oneCell' = true)
    (h63 : n + m ≤ maxLen) (hbytes : (n + m) * bytes ≤ 140737488355328) (hbase : base ≤ w.heap.size)
    (h : ∀ A' c' w', n + m ≤ c' → c' ≤ maxLen → Sl w' size A' (n + m) (xs ++ news) → Below base w w' → wpList P ops Q rest (a.put o.dst (.slice A' (n + m) c')) w') : wpList P ops Q (o :: rest) a w := by
  refine wpList_app w hgd s x t ho base e i z size bytes ht hi hz hsize hby hzs hsz v n xs hsv hown A m c news hx hs h1 h63 hbytes hbase fun v' w' h2 h3 => ?_
  obtain ⟨A', c', rfl, g1, g2, g3, _⟩ := own_form h2
  exact h A' c' w' g1 g2 g3 ((Below.refl _ _).grown h3 hbase (fun k hk => (hown.lt k hk).1))

theorem ints_len {l : List Int} (h : inR l) : (Wm.encL Wm.encI l).length ≤ 10 + 10 * l.length ∨ 9223372036854775807 < l.length := by
  rcases Nat.lt_or_ge 9223372036854775807 l.length with hb | hb
  · exact .inr hb
  · refine .inl ?_
    unfold Wm.encL
    rw [List.length_append]
    have h1 := Wm.encI_len (n := (l.length : Int)) (by omega) (by omega)
    have h2 : (l.flatMap Wm.encI).length ≤ 10 * l.length := by
      clear h1 hb
      induction l with
      | nil => simp
      | cons x r ih =>
        rw [List.flatMap_cons, List.length_append, List.length_cons]
        have h3 := Wm.encI_len (h x (List.mem_cons_self)).1 (h x (List.mem_cons_self)).2
        have h4 := ih (fun y hy => h y (List.mem_cons_of_mem _ hy))
        omega
    omega
theorem ints_bytes (l : List Int) : Wm.isBs (Wm.encL Wm.encI l) := fun x hx => by
  rcases List.mem_append.1 hx with hx | hx
  · exact Wm.encI_bytes _ x hx
  · obtain ⟨y, _, hy⟩ := List.mem_flatMap.1 hx
    exact Wm.encI_bytes y x hy

/-- What a maker of bytes answers, its length named, and whose it is. -/
def MadeOwn (k : Nat) (bs : Wm.Bs) (w : World) (e : Ending) (w' : World) : Prop := ∃ A c, e = .returned (.slice A k c) ∧ k ≤ c ∧ c ≤ maxLen ∧ w'.ownsRow w.heap.size 5 1 (.slice A k c) k (U bs) ∧ Sl w' 1 A k (U bs) ∧ Later w w'
theorem made_own {f : FuncId} {args : Array Value} {bs : Wm.Bs} {w : World} {k : Nat} (h : Calls Try.prog f args w (Made bs w)) (hk : k = bs.length) : Calls Try.prog f args w (MadeOwn k bs w) := by
  subst hk
  exact (made_as h).mono fun _ _ ⟨A, c, he, h1, h2, ho, h3, h4⟩ => ⟨A, c, he, h1, h2, ho, h3, h4⟩

set_option maxRecDepth 100000 in
set_option maxHeartbeats 1000000 in
theorem concat_any (s : ByteArray) (A : Option Addr) (n c : Nat) (l : List Int) (w : World) (hsz : s.size ≤ maxLen) (hs : Sl w 1 A n (N64 l)) (hl : inR l) (hr1 : s.size ≤ 140737488351232) (hr2 : n ≤ 140737488351232) :
    Calls Try.prog 10 #[.string s, .slice A n c] w fun e w' => e = .returned (.bool true) ∧ Later w w' := by
  unfold maxLen at hsz
  obtain ⟨i0, hi, hz0, hz1, hz2⟩ := info_parts u8_info
  have HS := Lib.hid (sanity_any)
  by_cases hbig : 2000 < s.size + n
  · go_enter Try.func10, Try.ntmps10
    go_wp2_with (go_at_call 12; refine (HS.out _).mono ?_; rintro e w' ⟨rfl, hb'⟩)
    go_ret
    exact ⟨rfl, hb'⟩
  · have hln : l.length = n := by have := hs.1; simpa [N64] using this
    have hLi : (Wm.encL Wm.encI l).length ≤ 20010 := by rcases ints_len hl with h | h <;> omega
    have hLb : (Wm.encB (Wm.ofS s)).length ≤ 2010 := by rw [Wm.encB_len, Wm.ofS_length]; have := Wm.encI_len (n := (s.size : Int)) (by omega) (by omega); omega
    obtain ⟨k1, hk1⟩ : ∃ k, k = (Wm.encB (Wm.ofS s)).length := ⟨_, rfl⟩
    obtain ⟨k2, hk2⟩ : ∃ k, k = (Wm.encL Wm.encI l).length := ⟨_, rfl⟩
    have H1 := Lib.hid (made_own (wireBytes_any s w (by omega) (by omega)) hk1)
    have H2 := Lib.hid fun (w1 : World) (hs1 : Sl w1 1 A n (N64 l)) => made_len (wireInts_any A n c l w1 hs1 hl (by unfold maxLen; omega) (by omega)) hk2
    have hd1 : Wm.decB (Wm.encB (Wm.ofS s) ++ Wm.encL Wm.encI l) = (Wm.ofS s, k1, 0) := by rw [hk1]; exact Wm.decB_encB _ _ (by rw [Wm.ofS_length]; omega)
    have hd2 : Wm.decL Wm.decI 1 (Wm.encL Wm.encI l) = (l, k2, 0) := by have := Wm.ints_back l [] hl (by omega); rw [List.append_nil] at this; rw [this, hk2]
    have hdrop : (Wm.encB (Wm.ofS s) ++ Wm.encL Wm.encI l).drop k1 = Wm.encL Wm.encI l := by rw [hk1]; simp
    have HB := Lib.hid (bs_append (Wm.encB_bytes (Wm.ofS_bytes s)) (ints_bytes l))
    have HD1 := Lib.hid fun (w' : World) (A' : Option Addr) (c' : Nat) (h1 : k1 + k2 ≤ c') (h2 : c' ≤ maxLen) (h : Sl w' 1 A' (k1 + k2) (U (Wm.encB (Wm.ofS s)) ++ U (Wm.encL Wm.encI l))) => Calls.outB (getBytes_any A' (k1 + k2) c' (Wm.encB (Wm.ofS s) ++ Wm.encL Wm.encI l) w' (by rw [U_append]; exact h) HB.out h1 h2) hd1
    rw [Wm.str_ofS] at HD1
    have HD2 := Lib.hid fun (w' : World) (A' : Option Addr) (c' : Nat) (h1 : k2 ≤ c') (h2 : c' ≤ maxLen) (h : Sl w' 1 A' k2 (U (Wm.encL Wm.encI l))) => wireGetInts_any A' k2 c' _ w' h (ints_bytes l) h1 h2 (by omega)
    rw [hd2] at HD2
    rw [← hk1] at hLb
    rw [← hk2] at hLi
    have HC := Lib.hid fun (w' : World) (A' : Option Addr) (c' : Nat) (h1 : k1 + k2 ≤ c') (h : Sl w' 1 A' (k1 + k2) (U (Wm.encB (Wm.ofS s)) ++ U (Wm.encL Wm.encI l))) => (show ∃ A4, (∀ w : World, (Instr.slice 28 (.slice A' (k1 + k2) c') (some (.int .i64 k1)) none none).run Try.prog w = .ok (.slice A4 k2 (c' - k1)) w) ∧ Sl w' 1 A4 k2 (U (Wm.encL Wm.encI l)) from by
      obtain ⟨A4, q1, q2⟩ := cut_run (A := A') (n := k1 + k2) (c := c') (u := k1) (b := Wm.encB (Wm.ofS s) ++ Wm.encL Wm.encI l) (by omega) h1
      have q3 := q2 w' (by rw [U_append]; exact h)
      rw [hdrop] at q3
      rw [Nat.add_sub_cancel_left] at q1 q3
      exact ⟨A4, q1, q3⟩)
    have HK := Lib.hid fun (w' : World) (A' : Option Addr) (n' c' : Nat) (h : Sl w' 1 A' n' (N64 l)) (h1 : n' ≤ maxLen) (h2 : Sl w' 1 A n (N64 l)) => sameInts_any A' A n' c' n c l l w' h h2 h1 (by unfold maxLen; omega)
    rw [decide_eq_true (rfl : l = l)] at HK
    clear hd1 hd2 hk1 hk2 hln hdrop
    have t1 := bs_beq s
    go_enter Try.func10, Try.ntmps10
    go_wp2_with (first
      | (go_at_call 16; refine (H1.out).mono ?_; rintro e w1 ⟨A1, c1, rfl, g1, g2, g3, g4, g5⟩)
      | (go_at_call 18; refine (H2.out w1 (hs.keep g5)).mono ?_; rintro e w2 ⟨A2, c2, rfl, g6, g7, g8, g9⟩)
      | (at_builtin; refine wpList_app_as _ rfl _ _ 28 rfl w.heap.size 5 i0 (.int .u8 0) 1 1 Try.underlying28 hi hz0 hz1 hz2 rfl (by decide) (.slice A1 k1 c1) k1 _ rfl (own_below g3 g9) A2 k2 c2 _ rfl g8 (U_one _) (by unfold maxLen; omega) (by omega) (Nat.le_trans g5.size g9.size) ?_; intro A3 c3 w3 f1 f2 f3 f4; obtain ⟨A4, hcut, f5⟩ := HC.out w3 A3 c3 f1 f3)
      | (go_at_call 26; refine (HD1.out w3 A3 c3 f1 f2 f3).mono ?_; rintro e w4 ⟨rfl, rfl⟩)
      | (go_at_call 28; refine (HD2.out w3 A4 (c3 - k1) (by omega) (by omega) f5).mono ?_; rintro e w5 ⟨A5, n5, c5, rfl, f6, f7, f8, f9⟩)
      | (go_at_call 12; refine (HS.out _).mono ?_; rintro e w6 ⟨rfl, f10⟩)
      | (go_at_call 30; refine (HK.out _ A5 n5 c5 (f8.keep f10) (Nat.le_trans f6 f7) (hs.keep (Later.trans_ (Later.trans_ (Below.trans (Later.trans_ g5 g9) f4) f9) f10))).mono ?_; rintro e w7 ⟨rfl, f11⟩))
    go_ret
    exact ⟨ret_bool (by simp), Later.trans_ (Later.trans_ (Later.trans_ (Below.trans (Later.trans_ g5 g9) f4) f9) f10) f11⟩

set_option maxRecDepth 100000 in
theorem concat_lifted (os : Os) (started : os.Started) (H : Type) (enc : TypeId × Value → H) :
    ReturnsInHanded {} Try.checked os 10 .any (Rows.wireConcatSpec.pre6 enc Try.prog Try.f10 Rows.wireConcatRow.domain false) (Rows.wireConcatSpec.post enc Try.prog Try.f10 false true false false) := by
  refine returnsInHanded_of_change_sized (C := Try.checked) ownK started (by kernel_rfl) Try.func10
    (ChangeSpec.witness6 (enc := enc) (C := Try.checked) false ⟨#[], #[.string ⟨#[]⟩, .slice none 0 0], []⟩ 8 (by kernel_rfl) (by kernel_rfl) (by kernel_rfl) (by kernel_rfl)) ?_
  intro W base args ds gs before hval0 hW _ hsz0 _
  have hval : ∀ (j : Nat) t v, Try.f10.params[j]? = some t → args[j]? = some v → Value.okWide Try.prog W .any base t v := hval0
  have hsz : (DataW.weightsEach Try.prog (Try.f10.params.toList ++ Rows.wireConcatSpec.plain.varTypes Try.prog) (ds ++ gs)).all (· ≤ reachBytes) = true := hsz0
  have hW' := hW
  obtain ⟨p, q, hA0, hV, rfl, _, _⟩ := hW
  have hA : DataW.TrodAll enc Try.prog W 0 (fun _ => true) true Try.f10.params.toList args.toList ds p := hA0
  rw [Try.params10] at hA hval hsz
  obtain ⟨v0, v1, d0, d1, p0, p1, rfl, rfl, rfl, h0, h1⟩ := trodAll_two hA
  obtain ⟨rfl, rfl⟩ := trodVars_none hV
  obtain ⟨s, rfl, s1⟩ := room_str hsz (j := 0) (t := 9) rfl rfl Try.underlying9 (hval 0 9 v0 rfl rfl) h0
  obtain ⟨A, n, c, l, rfl, b1, b2, b3, b4⟩ := ints_arg Try.underlying22 Try.underlying3 (by kernel_rfl) (hval 1 22 v1 rfl rfl) h1
  have hc := room_slice hsz (j := 1) (t := 22) rfl rfl Try.underlying22 h1
  have e8 : Try.prog.bytesOf 3 = 8 := by kernel_rfl
  have hrb := reachBytes_lt
  rw [e8] at hc
  clear hA0 hval0 hsz0 hsz
  refine (concat_any s A n c l W (by unfold maxLen; omega) b3 b4 (by unfold reachBytes at *; omega) (by unfold reachBytes at *; omega)).mono fun e W' ⟨he, hw⟩ => ?_
  subst he
  exact ⟨_, rfl, law_post laidK rfl (by kernel_rfl) (by kernel_rfl) Try.underlying4 (by kernel_rfl) hW' rfl hw⟩

theorem concat_holds : Rows.WireConcatSaid :=
  OpenClaim.holds_of_wide 10 Try.f10 rfl rfl rfl rfl rfl rfl rfl ⟨rfl, rfl, rfl, rfl, rfl⟩ rfl rfl rfl rfl rfl (by kernel_rfl) Try.func10 (by kernel_rfl)
    (of_decide_eq_true (by kernel_rfl)) (by unfold Func.isWrapper; first | (rw [if_pos (by decide +kernel)]; kernel_rfl) | (rw [if_neg (by decide +kernel)]; exact ⟨rfl, rfl⟩))
    (fun os started H enc _ => concat_lifted os started H enc)
#print axioms concat_holds

end Go.Proofs.Ytaknnccmohgmpaa
