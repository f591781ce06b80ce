/-
  THE WALKS OF lexer.readEnd, readSign, readName, readNumber.
-/
import Derived.Test.YtjopadfkdpcjmaaDoorLexB
namespace Go.Proofs.YtjopadfkdpcjmaaDoor
open Go.RowKit Go.ChangeShapes Go.WideShapes Go.ChangeAt

theorem results_c3 {P : Program} {fn : Func} {p q r : Tmp} {ty : TypeId} (h : fn.results = #[.cell p ty, .tmp q, .tmp r]) (tmps : Array Value) (w : World) (g : Nat) (t : TypeId) (cs : List Value) (v u : Value) (d : TypeDesc)
    (hp : tmps.getD p undef = .pointer (some ⟨g, 0, none⟩)) (hq : tmps.getD q undef = v) (hr : tmps.getD r undef = u) (hg : Blk w g t cs)
    (hu : P.underlying ty = some d) (hd : (match d with | .struct _ | .array _ _ => true | _ => false) = true) (hi : (P.info? ty).map (·.size) = some cs.length) :
    (results fn tmps).run P w = .ok (.tuple #[.agg cs.toArray, v, u]) w := by
  have hp' : tmps[p]?.getD undef = .pointer (some ⟨g, 0, none⟩) := by simpa using hp
  have hq' : tmps[q]?.getD undef = v := by simpa using hq
  have hr' : tmps[r]?.getD undef = u := by simpa using hr
  simp [results, h, hp', hq', hr', asAddr, run_loadVar_row w g t ty cs.toArray (0, 0) d hg hu hd (by rw [List.size_toArray]; exact hi)]
/-- A token's cells. -/
def Tk (t : Lx.Tok) : List Value := [.int .i64 t.kind, .int .i64 t.at_, .int .i64 t.n, .string ⟨t.s.toArray⟩]
/-- What a reader answers. -/
def ans (r : Lx.Tok × Nat × Int) : Value := .tuple #[.agg (Tk r.1).toArray, .int .i64 r.2.1, .int .i64 r.2.2]

theorem tk_info : (Tryd.prog.info? 41).map (fun i => (i.zero, i.size, i.bytes)) = some (some (.agg #[.int .i64 0, .int .i64 0, .int .i64 0, .string ⟨#[]⟩]), 4, 40) := by kernel_rfl
theorem tk_sz (t : Lx.Tok) : (Tryd.prog.info? 41).map (·.size) = some (Tk t).length := by kernel_rfl
theorem tk_one (t : Lx.Tok) : ∀ v ∈ Tk t, v.oneCell' = true := by
  intro v hv
  simp only [Tk, List.mem_cons, List.not_mem_nil, or_false] at hv
  rcases hv with rfl | rfl | rfl | rfl <;> rfl
theorem tk_zero : Tk Lx.Tok.zero = [.int .i64 0, .int .i64 0, .int .i64 0, .string ⟨#[]⟩] := rfl
theorem mk_s (s : ByteArray) (l : Lx.Str) (h : L s = l) : (⟨l.toArray⟩ : ByteArray) = s := by rw [← h, mk_L]

set_option maxRecDepth 100000 in
theorem readEnd_any (s : ByteArray) (w : World) : Calls Tryd.prog 47 #[.string s] w fun e w' => e = .returned (ans (⟨5, 0, 0, []⟩, 1, 0)) ∧ Later w w' := by
  go_enter Tryd.func47, Tryd.ntmps47
  go_wp2
  exact bodyPost_ret (v := ans (⟨5, 0, 0, []⟩, 1, 0)) (results_c3 (cs := Tk ⟨5, 0, 0, []⟩) Tryd.results47 _ _ w.heap.size 41 _ _ _ rfl rfl rfl (Blk.new w _ _ _ rfl) Tryd.underlying41 rfl (tk_sz _)) rfl ⟨rfl, later1 _ _⟩

set_option maxRecDepth 100000 in
theorem clone_any (s : ByteArray) (w : World) (hs : s.size ≤ 1000000) : Calls Tryd.prog 64 #[.string s] w fun e w' => e = .returned (.string s) ∧ Later w w' := by
  have H := Lib.hid (Tryd.stringslite_Clone s w (by omega))
  go_enter Tryd.func64, Tryd.ntmps64
  go_wp2_with (go_at_call 75; refine (H.out).mono ?_; rintro e w' ⟨rfl, l1⟩)
  go_ret
  exact ⟨rfl, l1⟩

set_option maxRecDepth 100000 in
theorem readSign_any (s : ByteArray) (w : World) (h0 : 0 < s.size) (hs : s.size ≤ 1000000) : Calls Tryd.prog 46 #[.string s] w fun e w' => e = .returned (ans (⟨4, 0, 0, [s[0]]⟩, 1, 0)) ∧ Later w w' := by
  obtain ⟨t, ht⟩ : ∃ t, s.extract 0 1 = t := ⟨_, rfl⟩
  have hL : L t = [s[0]] := by
    rw [← ht, L_take, L_cons s h0]; rfl
  have hts : t.size = 1 := by rw [← L_len, hL]; rfl
  obtain ⟨c, hc⟩ : ∃ c, s[0] = c := ⟨_, rfl⟩
  rw [hc] at hL ⊢
  have hm := Lib.hid (mk_s t _ hL)
  have H := Lib.hid fun w' => clone_any t w' (by omega)
  clear hL hts hc
  go_enter Tryd.func46, Tryd.ntmps46
  go_wp2_with (first
    | (go_at_call 64; refine (H.out _).mono ?_; rintro e w' ⟨rfl, l1⟩; have b2 := (Blk.new w 41 _ (Tk Lx.Tok.zero) rfl).keep l1)
    | (refine wpList_store_abs (o := ⟨none, .store 41 (.tmp 2) (.tmp 8), _, _, _, none⟩) rfl _ _ _ rfl w.heap.size 41 _ (Tk ⟨4, 0, 0, [c]⟩) rfl (by rw [Tk, hm.out]; rfl) b2 (tk_sz _) rfl (tk_one _) ?_; intro w2 z1 z2))
  exact bodyPost_ret (v := ans (⟨4, 0, 0, [c]⟩, 1, 0)) (results_c3 (cs := Tk ⟨4, 0, 0, [c]⟩) Tryd.results46 _ _ w.heap.size 41 _ _ _ rfl rfl rfl z1 Tryd.underlying41 rfl (tk_sz _)) rfl ⟨rfl, Below.only (Later.trans_ (later1 _ _) l1) z2 (Nat.le_refl _)⟩

def nameAns (w : Lx.Str) : Lx.Tok × Nat × Int := if w.length ≤ 32 then (⟨1, 0, 0, w⟩, w.length, 0) else (Lx.Tok.zero, 0, 2)
set_option maxRecDepth 100000 in
theorem readName_any (s : ByteArray) (w : World) (hs : s.size ≤ 1000000) : Calls Tryd.prog 43 #[.string s] w fun e w' => e = .returned (ans (nameAns (Lx.word (L s)))) ∧ Later w w' := by
  have HW := Lib.hid fun w' => word_any s w' hs
  have hwl := Lx.word_le (L s)
  rw [L_len] at hwl
  obtain ⟨l, hl⟩ : ∃ l, Lx.word (L s) = l := ⟨_, rfl⟩
  rw [hl] at HW hwl ⊢
  clear hl
  have HC := Lib.hid fun (t : ByteArray) (h : t.size = l.length) w' => clone_any t w' (by omega)
  by_cases h32 : l.length ≤ 32
  · rw [show nameAns l = (⟨1, 0, 0, l⟩, l.length, 0) by unfold nameAns; rw [if_pos h32]]
    go_enter Tryd.func43, Tryd.ntmps43
    go_wp2_with (first
      | (go_at_call 56; refine (HW.out _).mono ?_; rintro e w' ⟨t, rfl, ht, l1⟩; have b2 := (Blk.new w 41 _ (Tk Lx.Tok.zero) rfl).keep l1; have hm := Lib.hid (mk_s t _ ht); have hts : t.size = l.length := by { rw [← L_len, ht] }; have hts2 : t.size ≤ 32 := by omega)
      | (go_at_call 64; refine (HC.out _ hts _).mono ?_; rintro e w2 ⟨rfl, l2⟩; replace b2 := b2.keep l2)
      | (refine wpList_store_abs (o := ⟨none, .store 41 (.tmp 2) (.tmp 14), _, _, _, none⟩) rfl _ _ _ rfl w.heap.size 41 _ (Tk ⟨1, 0, 0, l⟩) rfl (by rw [Tk, hm.out]; rfl) b2 (tk_sz _) rfl (tk_one _) ?_; intro w3 z1 z2))
    refine bodyPost_ret (v := ans (⟨1, 0, 0, l⟩, l.length, 0)) (results_c3 (cs := Tk ⟨1, 0, 0, l⟩) Tryd.results43 _ _ w.heap.size 41 (.int .i64 l.length) (.int .i64 0) _ rfl (by rw [← hts]; rfl) rfl z1 Tryd.underlying41 rfl (tk_sz _)) rfl ⟨rfl, Below.only (Later.trans_ (Later.trans_ (later1 _ _) l1) l2) z2 (Nat.le_refl _)⟩
  · rw [show nameAns l = (Lx.Tok.zero, 0, 2) by unfold nameAns; rw [if_neg h32]]
    go_enter Tryd.func43, Tryd.ntmps43
    go_wp2_with (first
      | (go_at_call 56; refine (HW.out _).mono ?_; rintro e w' ⟨t, rfl, ht, l1⟩; have b2 := (Blk.new w 41 _ (Tk Lx.Tok.zero) rfl).keep l1; have hts : t.size = l.length := by { rw [← L_len, ht] }; have hts2 : (32 : Int) < (t.size : Int) := by omega)
      | (refine wpList_store_abs (o := ⟨none, .store 41 (.tmp 2) (.tmp 11), _, _, _, none⟩) rfl _ _ _ rfl w.heap.size 41 _ (Tk Lx.Tok.zero) rfl rfl b2 (tk_sz _) rfl (tk_one _) ?_; intro w3 z1 z2))
    refine bodyPost_ret (v := ans (Lx.Tok.zero, 0, 2)) (results_c3 (cs := Tk Lx.Tok.zero) Tryd.results43 _ _ w.heap.size 41 _ _ _ rfl rfl rfl z1 Tryd.underlying41 rfl (tk_sz _)) rfl ⟨rfl, Below.only (Later.trans_ (later1 _ _) l1) z2 (Nat.le_refl _)⟩

def numAns (w : Lx.Str) : Lx.Tok × Nat × Int := match Lx.number w with | some n => (⟨2, 0, (n : Int), []⟩, w.length, 0) | none => (Lx.Tok.zero, 0, 71)
theorem num_ans {l : Lx.Str} {z : Nat} {ok : Bool} (h : Lx.number l = if ok then some z else none) : numAns l = if ok then (⟨2, 0, (z : Int), []⟩, l.length, 0) else (Lx.Tok.zero, 0, 71) := by
  unfold numAns
  rw [h]
  cases ok <;> rfl
theorem pre_two (l : Lx.Str) : Lib.hasPrefix l [48, 120] = true ↔ l.take 2 = [48, 120] := by
  unfold Lib.hasPrefix
  rw [List.isPrefixOf_iff_prefix, List.prefix_iff_eq_take]
  simp [eq_comm]
theorem num_pre {l : Lx.Str} (h : Lib.hasPrefix l [48, 120] = true) : ∃ (z : Nat) (ok : Bool), valAns 16 (l.drop 2) = .tuple #[.int .i64 z, .bool ok] ∧ Lx.number l = if ok then some z else none := by
  rw [pre_two] at h
  unfold valAns Lx.number
  by_cases h3 : 3 ≤ l.length
  · rw [if_pos ⟨h3, h⟩]
    cases hv : Lx.val 16 0 (l.drop 2) with
    | none => exact ⟨0, false, rfl, rfl⟩
    | some x =>
      refine ⟨x, true, ?_, rfl⟩
      have : l.drop 2 ≠ [] := by
        intro e
        have := congrArg List.length e
        rw [List.length_drop, List.length_nil] at this
        omega
      simp [this]
  · rw [if_neg (fun hh => h3 hh.1)]
    have hl := congrArg List.length h
    rw [List.length_take] at hl
    simp only [List.length_cons, List.length_nil] at hl
    have he : l = [48, 120] := by rw [← h, List.take_of_length_le (by omega)]
    subst he
    exact ⟨0, false, rfl, rfl⟩
theorem num_dec {l : Lx.Str} (h : Lib.hasPrefix l [48, 120] = false) (h0 : l ≠ []) : ∃ (z : Nat) (ok : Bool), valAns 10 l = .tuple #[.int .i64 z, .bool ok] ∧ Lx.number l = if ok then some z else none := by
  unfold valAns Lx.number
  rw [if_neg (fun hh => by rw [(pre_two l).2 hh.2] at h; cases h)]
  cases hv : Lx.val 10 0 l with
  | none => exact ⟨0, false, rfl, rfl⟩
  | some x =>
    refine ⟨x, true, ?_, rfl⟩
    simp [h0]

set_option maxRecDepth 100000 in
set_option maxHeartbeats 1000000 in
theorem readNumber_any (s : ByteArray) (w : World) (hs : s.size ≤ 1000000) (h0 : Lx.word (L s) ≠ []) : Calls Tryd.prog 44 #[.string s] w fun e w' => e = .returned (ans (numAns (Lx.word (L s)))) ∧ Later w w' := by
  have HW := Lib.hid fun w' => word_any s w' hs
  have hwl := Lx.word_le (L s)
  rw [L_len] at hwl
  obtain ⟨l, hl⟩ : ∃ l, Lx.word (L s) = l := ⟨_, rfl⟩
  rw [hl] at HW hwl h0 ⊢
  clear hl
  have HP := Lib.hid fun (t : ByteArray) (h : L t = l) (w' : World) => by
    have h2 := Tryd.strings_HasPrefix t ⟨#[48, 120]⟩ w'
    rw [show t.data.toList = l from h, show (⟨#[48, 120]⟩ : ByteArray).data.toList = [48, 120] from rfl] at h2
    exact h2
  cases hp : Lib.hasPrefix l [48, 120] with
  | true =>
    obtain ⟨z, ok, h1, h2⟩ := num_pre hp
    have hl2 : 2 ≤ l.length := by
      have h3 := congrArg List.length ((pre_two l).1 hp)
      rw [List.length_take] at h3
      simp only [List.length_cons, List.length_nil] at h3
      omega
    have HV := Lib.hid fun (t : ByteArray) (h : L t = l) (w' : World) => by
      have h3 := value_any (t.extract 2 t.size) _ 16 w' alpha16 (by rw [← L_len, L_drop, List.length_drop, h]; omega)
      rw [L_drop, h, h1, show t.size = l.length by rw [← L_len, h]] at h3
      exact h3
    rw [hp] at HP
    have HN := Lib.hid (num_ans h2)
    clear h1 h2 hp
    cases ok with
    | true =>
      go_enter Tryd.func44, Tryd.ntmps44
      go_wp2_with (first
        | (go_at_call 56; refine (HW.out _).mono ?_; rintro e w' ⟨t, rfl, ht, l1⟩; have b2 := (Blk.new w 41 _ (Tk Lx.Tok.zero) rfl).keep l1; have hts : t.size = l.length := by { rw [← L_len, ht] }; have htl := Lib.hid ht; clear ht)
        | (go_at_call 41; refine (HP.out _ htl.out _).mono ?_; rintro e w2 ⟨rfl, rfl⟩)
        | (go_at_call 65; refine (HV.out _ htl.out _).mono ?_; rintro e w3 ⟨rfl, rfl⟩)
        | (refine wpList_store_abs (o := ⟨none, .store 41 (.tmp 2) (.tmp 27), _, _, _, none⟩) rfl _ _ _ rfl w.heap.size 41 _ (Tk ⟨2, 0, z, []⟩) rfl rfl b2 (tk_sz _) rfl (tk_one _) ?_; intro w3 z1 z2))
      rw [HN.out, if_pos trivial]
      exact bodyPost_ret (v := ans (⟨2, 0, z, []⟩, l.length, 0)) (results_c3 (cs := Tk ⟨2, 0, z, []⟩) Tryd.results44 _ _ w.heap.size 41 (.int .i64 l.length) (.int .i64 0) _ rfl (by rw [← hts]; rfl) rfl z1 Tryd.underlying41 rfl (tk_sz _)) rfl ⟨rfl, Below.only (Later.trans_ (later1 _ _) l1) z2 (Nat.le_refl _)⟩
    | false =>
      go_enter Tryd.func44, Tryd.ntmps44
      go_wp2_with (first
        | (go_at_call 56; refine (HW.out _).mono ?_; rintro e w' ⟨t, rfl, ht, l1⟩; have b2 := (Blk.new w 41 _ (Tk Lx.Tok.zero) rfl).keep l1; have hts : t.size = l.length := by { rw [← L_len, ht] }; have htl := Lib.hid ht; clear ht)
        | (go_at_call 41; refine (HP.out _ htl.out _).mono ?_; rintro e w2 ⟨rfl, rfl⟩)
        | (go_at_call 65; refine (HV.out _ htl.out _).mono ?_; rintro e w3 ⟨rfl, rfl⟩)
        | (refine wpList_store_abs (o := ⟨none, .store 41 (.tmp 2) (.tmp 25), _, _, _, none⟩) rfl _ _ _ rfl w.heap.size 41 _ (Tk Lx.Tok.zero) rfl rfl b2 (tk_sz _) rfl (tk_one _) ?_; intro w3 z1 z2))
      rw [HN.out, if_neg (by simp)]
      exact bodyPost_ret (v := ans (Lx.Tok.zero, 0, 71)) (results_c3 (cs := Tk Lx.Tok.zero) Tryd.results44 _ _ w.heap.size 41 _ _ _ rfl rfl rfl z1 Tryd.underlying41 rfl (tk_sz _)) rfl ⟨rfl, Below.only (Later.trans_ (later1 _ _) l1) z2 (Nat.le_refl _)⟩
  | false =>
    obtain ⟨z, ok, h1, h2⟩ := num_dec hp h0
    have HV := Lib.hid fun (t : ByteArray) (h : L t = l) (w' : World) => by
      have h3 := value_any t _ 10 w' alpha10 (by rw [← L_len, h]; omega)
      rw [h, h1] at h3
      exact h3
    rw [hp] at HP
    have HN := Lib.hid (num_ans h2)
    clear h1 h2 hp
    cases ok with
    | true =>
      go_enter Tryd.func44, Tryd.ntmps44
      go_wp2_with (first
        | (go_at_call 56; refine (HW.out _).mono ?_; rintro e w' ⟨t, rfl, ht, l1⟩; have b2 := (Blk.new w 41 _ (Tk Lx.Tok.zero) rfl).keep l1; have hts : t.size = l.length := by { rw [← L_len, ht] }; have htl := Lib.hid ht; clear ht)
        | (go_at_call 41; refine (HP.out _ htl.out _).mono ?_; rintro e w2 ⟨rfl, rfl⟩)
        | (go_at_call 65; refine (HV.out _ htl.out _).mono ?_; rintro e w3 ⟨rfl, rfl⟩)
        | (refine wpList_store_abs (o := ⟨none, .store 41 (.tmp 2) (.tmp 27), _, _, _, none⟩) rfl _ _ _ rfl w.heap.size 41 _ (Tk ⟨2, 0, z, []⟩) rfl rfl b2 (tk_sz _) rfl (tk_one _) ?_; intro w3 z1 z2))
      rw [HN.out, if_pos trivial]
      exact bodyPost_ret (v := ans (⟨2, 0, z, []⟩, l.length, 0)) (results_c3 (cs := Tk ⟨2, 0, z, []⟩) Tryd.results44 _ _ w.heap.size 41 (.int .i64 l.length) (.int .i64 0) _ rfl (by rw [← hts]; rfl) rfl z1 Tryd.underlying41 rfl (tk_sz _)) rfl ⟨rfl, Below.only (Later.trans_ (later1 _ _) l1) z2 (Nat.le_refl _)⟩
    | false =>
      go_enter Tryd.func44, Tryd.ntmps44
      go_wp2_with (first
        | (go_at_call 56; refine (HW.out _).mono ?_; rintro e w' ⟨t, rfl, ht, l1⟩; have b2 := (Blk.new w 41 _ (Tk Lx.Tok.zero) rfl).keep l1; have hts : t.size = l.length := by { rw [← L_len, ht] }; have htl := Lib.hid ht; clear ht)
        | (go_at_call 41; refine (HP.out _ htl.out _).mono ?_; rintro e w2 ⟨rfl, rfl⟩)
        | (go_at_call 65; refine (HV.out _ htl.out _).mono ?_; rintro e w3 ⟨rfl, rfl⟩)
        | (refine wpList_store_abs (o := ⟨none, .store 41 (.tmp 2) (.tmp 25), _, _, _, none⟩) rfl _ _ _ rfl w.heap.size 41 _ (Tk Lx.Tok.zero) rfl rfl b2 (tk_sz _) rfl (tk_one _) ?_; intro w3 z1 z2))
      rw [HN.out, if_neg (by simp)]
      exact bodyPost_ret (v := ans (Lx.Tok.zero, 0, 71)) (results_c3 (cs := Tk Lx.Tok.zero) Tryd.results44 _ _ w.heap.size 41 _ _ _ rfl rfl rfl z1 Tryd.underlying41 rfl (tk_sz _)) rfl ⟨rfl, Below.only (Later.trans_ (later1 _ _) l1) z2 (Nat.le_refl _)⟩
end Go.Proofs.YtjopadfkdpcjmaaDoor
