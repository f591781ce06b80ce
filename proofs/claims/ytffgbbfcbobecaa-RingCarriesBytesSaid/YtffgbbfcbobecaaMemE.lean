/-
  MEMORIES THAT THE CALL OWNS; THE WALKS OF slices.Clone, begin; and of the reference's Copy.
-/
import Derived.Test.YtffgbbfcbobecaaMemD
namespace Go.Proofs.Ytffgbbfcbobecaa
open Go.RowKit Go.ChangeShapes Go.WideShapes Go.ChangeAt

/-- THE BLOCK g HOLDS A MEMORY OF n PAGES, and may be written. -/
def Draft (w : World) (g n : Nat) (b : Wm.Bs) : Prop := b.length = n * 128 ∧ ∃ t junk, Blk w g t (U b ++ junk)
section
variable {w w' : World} {g n : Nat} {b : Wm.Bs}
theorem Draft.sl (h : Draft w g n b) : Sl w 128 (some ⟨g, 0, none⟩) n (U b) := by
  obtain ⟨hl, t, junk, hb⟩ := h
  refine ⟨by rw [U_length, hl], fun _ => ⟨_, rfl, hb.lt, fun j u hu => ?_⟩⟩
  rw [Addr.add_mid, Nat.zero_add]
  refine hb.cell ?_
  have hj : j < (U b).length := by
    rcases Nat.lt_or_ge j (U b).length with h | h
    · exact h
    · rw [List.getElem?_eq_none h] at hu; cases hu
  rw [List.getElem?_append_left hj]; exact hu
theorem Draft.keep (h : Draft w g n b) (k : Later w w') : Draft w' g n b := by
  obtain ⟨hl, t, junk, hb⟩ := h
  exact ⟨hl, t, junk, hb.keep k⟩
theorem Draft.drew (h : Draft w g n b) : Draft w.drew g n b := h
theorem Draft.lt (h : Draft w g n b) : g < w.heap.size := by obtain ⟨_, _, _, hb⟩ := h; exact hb.lt
theorem Draft.only {B : Nat} (h : Draft w g n b) (o : Only B w w') (hne : g ≠ B) : Draft w' g n b := by
  obtain ⟨hl, t, junk, hb⟩ := h
  exact ⟨hl, t, junk, hb.only o hne⟩
theorem Draft.puts (_h : Draft w g n b) {t : TypeId} {junk : List Value} (hl : b.length = n * 128) {o : Nat} {d : Wm.Bs} (hfit : o + d.length ≤ n * 128) (hb : Blk w' g t ((U b ++ junk).take o ++ U d ++ (U b ++ junk).drop (o + (U d).length))) : Draft w' g n (Mm.put b o d) := by
  refine ⟨(Mm.put_len (by omega)).trans hl, t, junk, ?_⟩
  have e : (U b ++ junk).take o ++ U d ++ (U b ++ junk).drop (o + (U d).length) = U (Mm.put b o d) ++ junk := by
    unfold Mm.put
    rw [List.take_append_of_le_length (by rw [U_length]; omega), List.drop_append_of_le_length (by rw [U_length, U_length]; omega), U_append, U_append, U_length]
    unfold U
    simp
  rw [e] at hb
  exact hb
end

theorem page_info : (Try.prog.info? 106).map (fun i => (i.zero, i.size, i.bytes)) = some (some (.agg (Array.replicate 128 (.int .u8 0))), 128, 128) := by kernel_rfl
theorem wp_app_own {P : Program} {w : World} {o : Oper} {a : Act} {K : Act → World → Prop} {Q : Exit → Act → World → Prop} (s x : Operand) (t : TypeId)
    (ho : o.op = .call { callee := .builtin .append, args := #[s, x], argTypes := #[t, t] })
    (e : TypeId) (i : TypeInfo) (z : Value) (size bytes : Nat) (ht : P.underlying t = some (.slice e)) (hi : P.info? e = some i) (hz : i.zero = some z)
    (hsize : i.size = size) (hby : i.bytes = bytes) (hzs : z.cells.size = size) (hsz : 0 < size)
    (b : Addr) (hsv : a.eval s = .slice (some b) 0 0) (A2 : Option Addr) (m c2 : Nat) (news : List Value) (hx : a.eval x = .slice A2 m c2) (hm : 0 < m) (hs2 : Sl w size A2 m news)
    (h63 : m ≤ maxLen) (hbytes : m * bytes ≤ 140737488355328)
    (h : ∀ g c' w', m ≤ c' → c' ≤ maxLen → w.heap.size ≤ g → (∃ cur : Array Value, w'.heap[g]? = some (.cells cur e (0, 0)) ∧ cur.toList.take (m * size) = news) → Later w w' → K (a.put o.dst (.slice (some ⟨g, 0, none⟩) m c')) w') : o.wp P a w K Q := by
  obtain ⟨ad, rfl, _, hc⟩ := hs2.2 hm
  obtain ⟨v', w', hr, h1, h2⟩ := run_append_arg_grows (P := P) w t o.type e i z size bytes ht hi hz hsize hby hzs hsz b 0 0 [] (by simp) (fun j u hu => by cases hu) ad m c2 news hs2.1 hc (by omega) (by omega) (by rw [Nat.zero_add]; exact hbytes)
  rw [Nat.zero_add, List.nil_append] at h1
  rcases h1.2 with ⟨_, e0⟩ | ⟨g, cap, cur, rfl, k1, k2, k3, k4, _, k6⟩
  · omega
  unfold Oper.wp execOp
  simp only [ho, resolve, invoke, builtin, Sem.run_bind, Sem.run_pure, Result.andThen_ok, List.map_toArray, List.map_cons, List.map_nil, hsv, hx, hr]
  exact h g cap w' k3 k4 k1 ⟨cur, k2, k6⟩ ((Below.refl _ _).grown h2 (Nat.le_refl _) (fun _ e => by cases e))
theorem wpList_app_own {P : Program} {w : World} {ops : Array Oper} {rest : List Oper} {o : Oper} {a : Act} {Q : Exit → Act → World → Prop} (hgd : o.guard = none) (s x : Operand) (t : TypeId)
    (ho : o.op = .call { callee := .builtin .append, args := #[s, x], argTypes := #[t, t] })
    (e : TypeId) (i : TypeInfo) (z : Value) (size bytes : Nat) (ht : P.underlying t = some (.slice e)) (hi : P.info? e = some i) (hz : i.zero = some z)
    (hsize : i.size = size) (hby : i.bytes = bytes) (hzs : z.cells.size = size) (hsz : 0 < size)
    (b : Addr) (hsv : a.eval s = .slice (some b) 0 0) (A2 : Option Addr) (m c2 : Nat) (news : List Value) (hx : a.eval x = .slice A2 m c2) (hm : 0 < m) (hs2 : Sl w size A2 m news)
    (h63 : m ≤ maxLen) (hbytes : m * bytes ≤ 140737488355328)
    (h : ∀ g c' w', m ≤ c' → c' ≤ maxLen → w.heap.size ≤ g → (∃ cur : Array Value, w'.heap[g]? = some (.cells cur e (0, 0)) ∧ cur.toList.take (m * size) = news) → Later w w' → wpList P ops Q rest (a.put o.dst (.slice (some ⟨g, 0, none⟩) m c')) w') : wpList P ops Q (o :: rest) a w :=
  wpList_plain hgd fun _ hK => wp_app_own s x t ho e i z size bytes ht hi hz hsize hby hzs hsz b hsv A2 m c2 news hx hm hs2 h63 hbytes (fun g c' w' k1 k2 k3 k4 k5 => hK _ _ (h g c' w' k1 k2 k3 k4 k5))
theorem run_eql_nil {P : Program} (w : World) (t e : TypeId) (a : Option Addr) (l c : Nat) (h : P.underlying t = some (.slice e)) : (binOp .eql t (.slice a l c) (.slice none 0 0)).run P w = .ok (.bool a.isNone) w := by
  have h1 : ∀ d : Nat, (Op.equalIn (d + 1) t (.slice a l c) (.slice none 0 0)).run P w = .ok a.isNone w := fun d => by
    cases a <;> simp [Op.equalIn, run_underlying h]
  have h2 : (Op.equal t (.slice a l c) (.slice none 0 0)).run P w = .ok a.isNone w := h1 9999
  simp [binOp, h2]
theorem draft_of {w : World} {g n : Nat} {b : Wm.Bs} {e : TypeId} (hl : b.length = n * 128) (h : ∃ cur : Array Value, w.heap[g]? = some (.cells cur e (0, 0)) ∧ cur.toList.take (n * 128) = U b) : Draft w g n b := by
  obtain ⟨cur, h1, h2⟩ := h
  refine ⟨hl, e, cur.toList.drop (n * 128), ?_⟩
  unfold Blk
  rw [← h2, List.take_append_drop]
  exact h1

set_option maxRecDepth 100000 in
set_option maxHeartbeats 1000000 in
theorem clone_any (A : Option Addr) (n c : Nat) (b : Wm.Bs) (w : World) (hs : Sl w 128 A n (U b)) (hn1 : 1 ≤ n) (hn : n ≤ 64) :
    Calls Try.prog 86 #[.slice A n c] w fun e w' => ∃ g c', e = .returned (.slice (some ⟨g, 0, none⟩) n c') ∧ w.heap.size ≤ g ∧ n ≤ c' ∧ c' ≤ maxLen ∧ Draft w' g n b ∧ Later w w' := by
  obtain ⟨i0, hi, hz0, hz1, hz2⟩ := info_parts page_info
  obtain ⟨ad, rfl⟩ := hs.addr (by omega)
  have hbl : b.length = n * 128 := by have := hs.1; rwa [U_length] at this
  have HS := Lib.hid hs
  have hnil := run_eql_nil (P := Try.prog) w 22 106 (some ad) n c Try.underlying22
  clear hs
  go_enter Try.func86, Try.ntmps86
  go_wp2_with (first
    | ((with_reducible refine wpList_app_own rfl (.tmp 5) (.tmp 6) 22 rfl 106 i0 _ 128 128 Try.underlying22 hi hz0 hz1 hz2 ?_ ?_ ⟨w.heap.size, 0, none⟩ ?_ (some ad) n c (U b) ?_ ?_ ?_ ?_ ?_ ?_); rfl; decide; rfl; rfl; omega; exact HS.out.alloc _; (unfold maxLen; omega); omega; intro g c' w1 k1 k2 k3 k4 k5))
  go_ret
  exact ⟨g, c', rfl, Nat.le_of_succ_le (by simpa using k3), k1, k2, draft_of hbl k4, Later.trans_ (later1 _ _) k5⟩
/-- What hands back a memory of the call's own. -/
def GotM (n : Nat) (b : Wm.Bs) (w : World) (e : Ending) (w' : World) : Prop := ∃ g c', e = .returned (.agg #[.slice (some ⟨g, 0, none⟩) n c']) ∧ w.heap.size ≤ g ∧ n ≤ c' ∧ c' ≤ maxLen ∧ Draft w' g n b ∧ Later w w'
theorem dr_sz {v : Value} : (Try.prog.info? 127).map (·.size) = some [v].length := by
  show _ = some 1
  kernel_rfl
set_option maxRecDepth 100000 in
set_option maxHeartbeats 1000000 in
theorem begin_any (A : Option Addr) (n c : Nat) (b : Wm.Bs) (w : World) (hs : Sl w 128 A n (U b)) (hn1 : 1 ≤ n) (hn : n ≤ 64) :
    Calls Try.prog 71 #[.agg #[.slice A n c]] w (GotM n b w) := by
  have HC := Lib.hid fun w' (hl : Later w w') => clone_any A n c b w' (hs.keep hl) hn1 hn
  have l0 := (later1 w (.cells #[.slice A n c] 24)).alloc (by simp) (.cells #[.slice none 0 0] 127)
  have bR := Blk.new' (w.alloc (.cells #[.slice A n c] 24)) (w.heap.size + 1) 127 #[.slice none 0 0] [.slice none 0 0] (by simp) rfl
  go_enter Try.func71, Try.ntmps71
  go_wp2_with (first
    | (go_at_call 86; refine (HC.out _ l0).mono ?_; rintro e w1 ⟨g, c', rfl, k1, k2, k3, k4, k5⟩; replace bR := bR.keep k5; have c0 := bR.cell (j := 0) (v := .slice none 0 0) rfl; have f0 := bR.frz 0))
  have k1' : w.heap.size + 2 ≤ g := by simpa using k1
  refine bodyPost_ret (results_blk Try.results71 _ _ (w.heap.size + 1) 127 [.slice (some ⟨g, 0, none⟩) n c'] _ rfl (bR.set 0 _) Try.underlying127 rfl dr_sz) rfl ⟨g, c', rfl, by omega, k2, k3, k4.only (Only.set _ _ _ _) (by omega), (Later.trans_ l0 k5).setCell (by simp) _⟩
set_option maxRecDepth 100000 in
set_option maxHeartbeats 1000000 in
theorem rcopy_any (A : Option Addr) (n c : Nat) (b : Wm.Bs) (w : World) (hs : Sl w 128 A n (U b)) (hn1 : 1 ≤ n) (hn : n ≤ 64) :
    Calls Try.prog 73 #[.agg #[.slice A n c]] w (GotM n b w) := by
  obtain ⟨i0, hi, hz0, hz1, hz2⟩ := info_parts page_info
  obtain ⟨ad, rfl⟩ := hs.addr (by omega)
  have hbl : b.length = n * 128 := by have := hs.1; rwa [U_length] at this
  have HS := Lib.hid hs
  clear hs
  have l0 := (later1 w (.cells #[.slice (some ad) n c] 24)).alloc (by simp) (.cells #[.slice none 0 0] 24)
  have bR := Blk.new' (w.alloc (.cells #[.slice (some ad) n c] 24)) (w.heap.size + 1) 24 #[.slice none 0 0] [.slice none 0 0] (by simp) rfl
  go_enter Try.func73, Try.ntmps73
  go_wp2_with (first
    | ((with_reducible refine wpList_app_own rfl (.tmp 3) (.tmp 5) 22 rfl 106 i0 _ 128 128 Try.underlying22 hi hz0 hz1 hz2 ?_ ?_ ⟨w.heap.size + 1 + 1, 0, none⟩ ?_ (some ad) n c (U b) ?_ ?_ ?_ ?_ ?_ ?_); rfl; decide; rfl; rfl; omega; exact (HS.out.keep l0).alloc _; (unfold maxLen; omega); omega; intro g c' w1 k1 k2 k3 k4 k5; replace bR := (bR.alloc _).keep k5; have c0 := bR.cell (j := 0) (v := .slice none 0 0) rfl; have f0 := bR.frz 0))
  have k3' : w.heap.size + 3 ≤ g := by simpa using k3
  refine bodyPost_ret (results_blk Try.results73 _ _ (w.heap.size + 1) 24 [.slice (some ⟨g, 0, none⟩) n c'] _ rfl (bR.set 0 _) Try.underlying24 rfl mem_sz) rfl ⟨g, c', rfl, by omega, k1, k2, (draft_of hbl k4).only (Only.set _ _ _ _) (by omega), (Later.trans_ (l0.alloc (by simp; omega) _) k5).setCell (by simp) _⟩
end Go.Proofs.Ytffgbbfcbobecaa
