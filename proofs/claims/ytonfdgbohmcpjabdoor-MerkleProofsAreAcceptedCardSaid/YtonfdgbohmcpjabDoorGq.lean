/-
  THE WALK OF MerkleProofsAreAccepted.
-/
import Derived.Test.YtonfdgbohmcpjabDoorGp
namespace Go.Proofs.YtonfdgbohmcpjabDoor
open Go.RowKit Go.ChangeShapes Go.WideShapes Go.ChangeAt

theorem sep_ne {v1 v2 : Value} (h : ∀ g, v1.ownBlock = some g → v2.ownBlock ≠ some g) : v2.ownBlock = none ∨ v2.ownBlock ≠ v1.ownBlock := by
  cases e : v1.ownBlock with
  | none => cases v2.ownBlock <;> simp
  | some g => exact .inr (h g e)
theorem Later.alloc_size {u w : World} (h : Later u w) (o : Obj) : u.heap.size ≤ (w.alloc o).heap.size := (h.alloc h.size o).size
theorem N64_app (a b : List Int) : N64 (a ++ b) = N64 a ++ N64 b := by unfold N64; rw [List.map_append]
set_option maxRecDepth 100000 in
set_option maxHeartbeats 1000000 in
theorem acc_big (A : Option Addr) (n c : Nat) (i m ch : Int) (x : Wm.Bs) (w : World) (tab : Tab w) (tab0 : Tab0 w) (h : n = 0 ∨ 40 < n) :
    Calls Tryd.prog 6 #[.slice A n c, .int .u8 i, .int .u8 m, .int .u64 ch, .agg (U x).toArray] w fun e w' => e = .returned (.bool true) ∧ Later w w' := by
  have HS := Lib.hid fun w' (h : Later w w') => sanity_any w' (tab.keep h) (tab0.keep h)
  clear tab tab0
  obtain ⟨X, hX⟩ : ∃ X, X = (U x).toArray := ⟨_, rfl⟩
  rw [← hX]
  clear hX
  rcases h with rfl | h
  · go_enter Tryd.func6, Tryd.ntmps6
    go_wp2_with (go_at_call 9; refine (HS.out _ (laterZ _ _)).mono ?_; rintro e w1 ⟨rfl, l1⟩)
    go_ret
    exact ⟨rfl, Later.trans_ (laterZ _ _) l1⟩
  · have h0 : ¬ (n : Int) = 0 := by omega
    go_enter Tryd.func6, Tryd.ntmps6
    go_wp2_with (go_at_call 9; refine (HS.out _ (laterZ _ _)).mono ?_; rintro e w1 ⟨rfl, l1⟩)
    go_ret
    exact ⟨rfl, Later.trans_ (laterZ _ _) l1⟩
set_option maxRecDepth 100000 in
set_option maxHeartbeats 8000000 in
theorem acc_any (A : Option Addr) (n c : Nat) (i m : Int) (ch : Nat) (x : Wm.Bs) (l : List Wm.Bs) (w : World) (tab : Tab w) (tab0 : Tab0 w) (hn1 : 1 ≤ n) (hn : n ≤ 40) (hi0 : 0 ≤ i) (hi1 : i < 256) (hm0 : 0 ≤ m) (hm1 : m < 256) (hch : ch < 18446744073709551616) (hx : x.length = 16 ∧ Wm.isBs x) (hs : Sl w 16 A n (Ds l)) (hl : isD l) (hnc : n ≤ c) (hc : c ≤ 9223372036854775807) :
    Calls Tryd.prog 6 #[.slice A n c, .int .u8 i, .int .u8 m, .int .u64 ch, .agg (U x).toArray] w fun e w' => e = .returned (.bool true) ∧ Later w w' := by
  have hll := hs.dlen hl
  obtain ⟨a, ha⟩ := Int.eq_ofNat_of_zero_le (show 0 ≤ i % (n : Int) from Int.emod_nonneg _ (by omega))
  have ha1 : a < n := by have := Int.emod_lt_of_pos i (show (0 : Int) < n by omega); omega
  have hta : i.tmod (n : Int) = a := by rw [Int.tmod_eq_emod_of_nonneg hi0]; exact ha
  obtain ⟨f, hf⟩ := Int.eq_ofNat_of_zero_le (show 0 ≤ m % ((n : Int) + 1) from Int.emod_nonneg _ (by omega))
  have hf1 : f ≤ n := by have := Int.emod_lt_of_pos m (show (0 : Int) < (n : Int) + 1 by omega); omega
  have htf : m.tmod ((n : Int) + 1) = f := by rw [Int.tmod_eq_emod_of_nonneg hm0]; exact hf
  obtain ⟨ad, eA, hadb, hal, hck⟩ := hs.digest hl ha1
  obtain ⟨dt, hdt⟩ : ∃ dt, dt = l[a] := ⟨_, rfl⟩
  have hdts : l[a]? = some dt := by rw [List.getElem?_eq_getElem hal, hdt]
  have hdtd : dt.length = 16 ∧ Wm.isBs dt := by rw [hdt]; exact hl _ (List.getElem_mem hal)
  have HSN := Lib.hid fun w' (h : Later w w') => sanity_any w' (tab.keep h) (tab0.keep h)
  have HRT := Lib.hid fun w' (h : Later w w') => root_any n A n c l w' (Nat.le_refl _) (hs.keep h) hl (by omega) hnc hc (tab.keep h)
  have HRO := Lib.hid fun w' (h : Later w w') => root_any f A f c (l.take f) w' (Nat.le_refl _) (sl_take (hs.keep h) hl hf1) (fun x hx => hl x (List.mem_of_mem_take hx)) (by omega) (by omega) hc (tab.keep h)
  have hrd := rootD_dig hl
  have hod := rootD_dig (l := l.take f) (fun x hx => hl x (List.mem_of_mem_take hx))
  have HI := Lib.hid fun w' (h : Later w w') => (inclusion_any A n c a l w' ha1 (by omega) hnc hc (hs.keep h) hl (tab.keep h)).mono fun _ _ => gotE_path
  have HC := Lib.hid fun w' (h : Later w w') => (consL_any A n c f l w' hf1 (by omega) hnc hc (hs.keep h) hl (tab.keep h)).mono fun _ _ => gotE_path
  have hps := psK_in ch n
  have HM := Lib.hid fun (A20 : Option Addr) (c20 : Nat) (w' : World) (hp : Sl w' 1 A20 (psK ch n).length (N64 (psK ch n))) (h1 : (psK ch n).length ≤ c20) (h2 : c20 ≤ 9223372036854775807) (h : Later w w') => (many_any A A20 n c _ c20 l (psK ch n) w' hn1 (by omega) hnc hc (hs.keep h) hl hp h1 h2 (arePl_of _ _ _ hps.1 hps.2) (tab.keep h)).mono fun _ _ => gotE_path
  have HCI := Lib.hid fun (A1 : Option Addr) (c1 : Nat) (w' : World) (hp : Pt w' A1 (Mk.incl nodeD emptyD l a).length c1 (Mk.incl nodeD emptyD l a)) (h : Later w w') => (by
    have h2 := checkIncl_any dt (rootD l) a n A1 _ c1 (Mk.incl nodeD emptyD l a) w' ha1 (by omega) hdtd hrd hp.1 (incl_isD _ l a (Nat.le_refl _) hl) hp.2.1 hp.2.2 (tab.keep h)
    have e := Mk.climb_incl nodeD zD emptyD l.length l a dt [] false (Nat.le_refl _) hdts
    rw [List.append_nil, hll] at e
    rw [e] at h2
    have e2 : (decide ((Mk.root nodeD emptyD l, (⟨[], false⟩ : Mk.Tr Wm.Bs)).1 = rootD l) && !(Mk.root nodeD emptyD l, (⟨[], false⟩ : Mk.Tr Wm.Bs)).2.short && decide ((Mk.root nodeD emptyD l, (⟨[], false⟩ : Mk.Tr Wm.Bs)).2.rest = [])) = true := by simp [rootD]
    rw [e2] at h2
    exact h2 : Calls Tryd.prog 29 #[.agg (U dt).toArray, .int .i64 a, .int .i64 n, .slice A1 (Mk.incl nodeD emptyD l a).length c1, .agg (U (rootD l)).toArray] w' fun e w'' => e = .returned (.bool true) ∧ Later w' w'')
  have hcd := cnsL_isD hl f
  have HCC := Lib.hid fun (x y : Wm.Bs) (hx : x.length = 16 ∧ Wm.isBs x) (hy : y.length = 16 ∧ Wm.isBs y) (q : Bool) (hq : ccB l f x y = q) (A2 : Option Addr) (c2 : Nat) (w' : World) (hp : Pt w' A2 (cnsL l f).length c2 (cnsL l f)) (h : Later w w') => (by
    have h2 := ccB_any l f x y A2 c2 w' (by omega) (by omega) hx hy hp hcd hp.2.2 (tab.keep h)
    rw [hq, hll] at h2
    exact h2 : Calls Tryd.prog 30 #[.int .i64 f, .int .i64 n, .agg (U x).toArray, .agg (U y).toArray, .slice A2 (cnsL l f).length c2] w' fun e w'' => e = .returned (.bool q) ∧ Later w' w'')
  have hfd := fsK_isD hl ch n (by omega)
  have HCM := Lib.hid fun (A1 A2 A3 : Option Addr) (c1 c2 c3 : Nat) (w' : World) (hp : Sl w' 1 A1 (psK ch n).length (N64 (psK ch n))) (hq : Sl w' 16 A2 (psK ch n).length (Ds (fsK l ch n))) (h1 : (psK ch n).length ≤ c1) (h2 : (psK ch n).length ≤ c2) (h3 : c1 ≤ 9223372036854775807) (h4 : c2 ≤ 9223372036854775807) (h5 : Pt w' A3 (Mk.many nodeD emptyD l 0 (psK ch n)).length c3 (Mk.many nodeD emptyD l 0 (psK ch n))) (h6 : isD (Mk.many nodeD emptyD l 0 (psK ch n))) (h : Later w w') => (by
    have h7 := checkMany_any (rootD l) n A1 A2 _ c1 c2 (psK ch n) (fsK l ch n) A3 _ c3 (Mk.many nodeD emptyD l 0 (psK ch n)) w' hn1 (by omega) hrd hp hq hfd (arePl_of _ _ _ hps.1 hps.2) h1 h2 h3 h4 h5.1 h6 h5.2.1 h5.2.2 (tab.keep h)
    have e := gat_acc l ch (by omega)
    rw [hll] at e
    rw [e] at h7
    have e2 : (decide ((rootD l, (⟨[], false⟩ : Mk.Tr Wm.Bs)).1 = rootD l) && !(rootD l, (⟨[], false⟩ : Mk.Tr Wm.Bs)).2.short && decide ((rootD l, (⟨[], false⟩ : Mk.Tr Wm.Bs)).2.rest = [])) = true := by simp
    rw [e2] at h7
    exact h7 : Calls Tryd.prog 23 #[.int .i64 n, .slice A1 (psK ch n).length c1, .slice A2 (psK ch n).length c2, .slice A3 (Mk.many nodeD emptyD l 0 (psK ch n)).length c3, .agg (U (rootD l)).toArray] w' fun e w'' => e = .returned (.bool true) ∧ Later w' w'')
  have hmd : isD (Mk.many nodeD emptyD l 0 (psK ch n)) := many_isD _ l 0 _ (Nat.le_refl _) hl
  have QN := Lib.hid fun (x : Wm.Bs) (hp : f = 0 ∨ f = l.length ∨ ∀ j : Nat, f ≠ 2 ^ j) => ccB_new l f x (by omega) hp
  have QO := Lib.hid fun (y : Wm.Bs) (h0 : 1 ≤ f) => ccB_old l f y h0 (by omega)
  have QA := Lib.hid (ccB_acc l f (by omega))
  obtain ⟨rt, ert⟩ : ∃ rt, rt = rootD l := ⟨_, rfl⟩
  obtain ⟨od, eod⟩ : ∃ od, od = rootD (l.take f) := ⟨_, rfl⟩
  rw [← ert] at HRT HCI HCM QN QO QA hrd
  rw [← eod] at HRO QN QO QA hod
  obtain ⟨J1, eJ1⟩ : ∃ J, J = Mk.incl nodeD emptyD l a := ⟨_, rfl⟩
  rw [← eJ1] at HI HCI
  obtain ⟨J2, eJ2⟩ : ∃ J, J = cnsL l f := ⟨_, rfl⟩
  rw [← eJ2] at HC HCC
  obtain ⟨J3, eJ3⟩ : ∃ J, J = Mk.many nodeD emptyD l 0 (psK ch n) := ⟨_, rfl⟩
  rw [← eJ3] at HM HCM hmd
  have HCQ := Lib.hid fun w' (h : Sl w' 16 (some ad) n (Ds l)) => (by
    obtain ⟨ad', e, _, hkl, hck⟩ := h.digest hl ha1
    cases e
    intro j v hv
    exact hck j v (by rw [← hdt]; exact hv) : ∀ j v, (U dt)[j]? = some v → w'.cell? ((ad.add (a * 16)).add j) = some v)
  have HLK := Lib.hid fun (k : Nat) (hk : k < n) (w' : World) (h : Sl w' 16 (some ad) n (Ds l)) => (by
    obtain ⟨ad', e, _, hkl, hck⟩ := h.digest hl hk
    cases e
    intro j v hv
    rw [List.getD_eq_getElem?_getD, List.getElem?_eq_getElem hkl] at hv
    exact hck j v hv : ∀ j v, (U (l.getD k zD))[j]? = some v → w'.cell? ((ad.add (k * 16)).add j) = some v)
  have HLD := Lib.hid fun (k : Nat) (hk : k < n) => (by
    rw [List.getD_eq_getElem?_getD, List.getElem?_eq_getElem (show k < l.length by omega)]
    exact hl _ (List.getElem_mem _) : (l.getD k zD).length = 16 ∧ Wm.isBs (l.getD k zD))
  have HDR := Lib.hid hrd; have HDO := Lib.hid hod; have HDX := Lib.hid hx; have HDT := Lib.hid hdtd; have HMD := Lib.hid hmd; have HLL := Lib.hid hll
  have hsz0 : ¬ (n : Int) = 0 := by omega
  have hsz1 : ¬ (40 : Int) < n := by omega
  have hfc : ¬ c < f := by omega
  have hfi : (f : Int) ≤ n := by omega
  have hn2 : ¬ (n : Int) + 1 = 0 := by omega
  have PLE := Lib.hid fun k => psK_le ch k
  have PFL := Lib.hid fun k => psK_len l ch k
  have BIT := Lib.hid fun k => bit_is ch k hch
  subst eA
  obtain ⟨i0, hI⟩ := dgI
  have HDI := Lib.hid hI
  obtain ⟨iI, hJ⟩ := inI
  have HII := Lib.hid hJ
  obtain ⟨X0, hX0⟩ : ∃ X, X = (U x).toArray := ⟨_, rfl⟩
  have bx : Blk (w.alloc (.cells X0 31)) w.heap.size 31 (U x) := Blk.new w _ _ _ hX0
  have lr : Later w (w.alloc (.cells X0 31)) := laterZ _ _
  have sl := hs.keep lr
  rw [← hX0]
  clear tab tab0 hs hl hll ha hf hadb hck hdt hdts hdtd hrd hod hcd hfd hmd hps hx ert eod eJ1 eJ2 eJ3 hI hJ hX0 hch hal
  go_enter Tryd.func6, Tryd.ntmps6
  go_wp2_with (first
    | (go_at_call 15; (with_reducible refine (HRT.out _ lr).mono ?_); rintro e wa ⟨rfl, h1⟩; replace lr := Later.trans_ lr h1; replace bx := bx.keep h1; replace sl := sl.keep h1)
    | ((with_reducible refine wpList_store_abs (o := ⟨none, .store 31 (.tmp 14) (.tmp 45), _, _, _, none⟩) rfl _ _ _ rfl wa.heap.size 31 (PartB [] 16) (U rt) ?_ ?_ (Blk.new wa _ _ _ rfl) (dig_sz HDR.out.1) (dig_z HDR.out.1) (U_one _) ?_); rfl; rfl; intro wb xr o1; have k1 : Later wa wb := Below.only (laterZ wa (.cells (PartB [] 16).toArray 31)) o1 (Nat.le_refl _); replace lr := Later.trans_ lr k1; replace bx := bx.keep k1; replace sl := sl.keep k1)
    | (go_at_call 15; (with_reducible refine (HRO.out _ lr).mono ?_); rintro e wc ⟨rfl, h2⟩; replace lr := Later.trans_ lr h2; replace bx := bx.keep h2; replace sl := sl.keep h2; replace xr := xr.keep h2)
    | ((with_reducible refine wpList_store_abs (o := ⟨none, .store 31 (.tmp 15) (.tmp 49), _, _, _, none⟩) rfl _ _ _ rfl wc.heap.size 31 (PartB [] 16) (U od) ?_ ?_ (Blk.new wc _ _ _ rfl) (dig_sz HDO.out.1) (dig_z HDO.out.1) (U_one _) ?_); rfl; rfl; intro wd xo o2; have k2 : Later wc wd := Below.only (laterZ wc (.cells (PartB [] 16).toArray 31)) o2 (Nat.le_refl _); replace lr := Later.trans_ lr k2; replace bx := bx.keep k2; replace sl := sl.keep k2; replace xr := xr.keep k2)
    | (go_at_call 10; (with_reducible refine (HI.out _ lr).mono ?_); rintro e we ⟨A1, c1, rfl, p1, h3⟩; replace lr := Later.trans_ lr h3; replace bx := bx.keep h3; replace sl := sl.keep h3; replace xr := xr.keep h3; replace xo := xo.keep h3)
    | (go_at_call 11; (with_reducible refine (HC.out _ lr).mono ?_); rintro e u0 ⟨A2, c2, rfl, p2, h4⟩; replace lr := Later.trans_ lr h4; replace bx := bx.keep h4; replace sl := sl.keep h4; replace xr := xr.keep h4; replace xo := xo.keep h4; replace p1 := p1.keep h4))
  obtain ⟨B0, e0⟩ : ∃ B, B = w.heap.size := ⟨_, rfl⟩
  obtain ⟨Br, e1⟩ : ∃ B, B = wa.heap.size := ⟨_, rfl⟩
  obtain ⟨Bo, e2⟩ : ∃ B, B = wc.heap.size := ⟨_, rfl⟩
  rw [← e0] at bx ⊢; rw [← e1] at xr ⊢; rw [← e2] at xo ⊢
  clear e0 e1 e2 h1 h2 h3 h4 k1 k2 o1 o2 HI HC HRT HRO
  go_loopw [20, 21, 22] (fun v1 v2 v3 wr => ∃ k : Nat, v3 = .int .i64 k ∧ k ≤ n ∧ wr.ownsRow u0.heap.size 3 1 v1 (psK ch k).length (N64 (psK ch k)) ∧ wr.ownsRow u0.heap.size 31 16 v2 (fsK l ch k).length (Ds (fsK l ch k)) ∧ Hid (∀ g, v1.ownBlock = some g → v2.ownBlock ≠ some g) ∧ Later u0 wr) (fun _ _ v3 _ => n - (intOf v3).toNat)
  case atStart => exact ⟨0, rfl, Nat.zero_le _, ⟨rfl, .inl ⟨rfl, rfl⟩⟩, ⟨rfl, .inl ⟨rfl, rfl⟩⟩, Lib.hid (fun g h => by cases h), Below.refl _ _⟩
  case round =>
    obtain ⟨k, rfl, hk, o1, o2, SEP, hu⟩ := hrel
    by_cases hlt : k < n
    · have hkn : (k : Int) < n := by omega
      have hbt := BIT.out k
      rw [Int.natCast_ediv, Int.natCast_pow, show ((2 : Nat) : Int) = 2 from rfl] at hbt
      have hpl := PLE.out k
      have hfl := PFL.out k
      by_cases hb : ch.testBit k = true
      · rw [if_pos hb] at hbt
        have slr := sl.keep hu
        have hXd := HLD.out k hlt
        have HXD := Lib.hid hXd
        have HCK := Lib.hid (HLK.out k hlt)
        have ep : Hid (psK ch (k + 1) = psK ch k ++ [(k : Int)]) := Lib.hid (by show psK ch k ++ _ = _; rw [if_pos hb])
        have ef : Hid (fsK l ch (k + 1) = fsK l ch k ++ [l.getD k zD]) := Lib.hid (by show fsK l ch k ++ _ = _; rw [if_pos hb])
        obtain ⟨X, hX⟩ : ∃ X, X = l.getD k zD := ⟨_, rfl⟩
        rw [← hX] at HXD HCK ef
        obtain ⟨np, hnp⟩ : ∃ z, z = (psK ch k).length := ⟨_, rfl⟩
        have HNP := Lib.hid hnp
        have HNF : Hid (np = (fsK l ch k).length) := Lib.hid (by rw [hnp, hfl])
        rw [← HNP.out] at o1
        rw [← HNF.out] at o2
        have hnp40 : np ≤ 40 := by omega
        clear hb hX hXd hfl hpl hnp
        go_wp2_with (first
          | ((with_reducible refine wpList_plain (o := ⟨some 75, .call { callee := .builtin .append, args := #[.tmp 72, .tmp 74], argTypes := #[37, 37] }, _, _, _, none⟩) rfl (fun K' hK => ?_)); refine wp_append_lies _ (.tmp 72) (.tmp 74) 37 rfl u0.heap.size 3 iI _ 1 8 Tryd.underlying37 HII.out.hi HII.out.hz HII.out.hs HII.out.hb rfl (by decide) u20 np (N64 (psK ch k)) rfl (o1.alloc _) ⟨wr.heap.size, 0, none⟩ 1 1 [.int .i64 k] rfl rfl (fun j u hu => World.news_of_block (heap_alloc_new wr _) j u (by simpa using hu)) (one_int _ _) (by decide) (by unfold maxLen; omega) (by omega) (Later.alloc_size hu _) _ rfl ?_; intro g1 cap1 wa own1 grow1 hat1 hlt1; refine hK _ _ ?_; clear hK K'; have hu1 : Later u0 wa := (hu.alloc hu.size (.cells #[.int .i64 k] 3)).grown grow1 (Later.alloc_size hu _) (fun b hb => (o1.lt b hb).1); have o2' := o2; replace o2 := (o2.alloc (.cells #[.int .i64 k] 3)).kept grow1 (sep_ne SEP.out); have sep1 : ∀ g, g1 = g → u21.ownBlock ≠ some g := fun g hg e => (by subst hg; exact hat1.elim (fun h => SEP.out g1 h e) (fun h => (by have := (o2'.lt g1 e).2; have hh : g1 = wr.heap.size + 1 := (by simpa using h); omega))); have sla := sl.keep hu1)
          | ((with_reducible refine wpList_load_addr (o := ⟨some 80, .load 31 (.tmp 79), _, _, _, none⟩) rfl _ _ rfl (ad.add (k * 16)) (U X) _ ?_ (HCK.out _ sla) Tryd.underlying31 ?_ (dig_sz HXD.out.1) ?_); rfl; rfl)
          | ((with_reducible refine wpList_plain (o := ⟨some 81, .buildSlice 22 1 #[(0, .tmp 80)], _, _, _, none⟩) rfl (fun K' hK => ?_)); refine wp_build1 _ 31 _ rfl (U X).toArray i0 _ Tryd.underlying22 HDI.out.hi HDI.out.hz (by rw [HDI.out.hs, List.size_toArray, U_length, HXD.out.1]) (by rw [List.size_toArray, U_length, HXD.out.1]; decide) (by rw [List.size_toArray, U_length, HXD.out.1]; decide) rfl ?_; refine hK _ _ ?_; clear hK K')
          | ((with_reducible refine wpList_plain (o := ⟨some 82, .call { callee := .builtin .append, args := #[.tmp 76, .tmp 81], argTypes := #[22, 22] }, _, _, _, none⟩) rfl (fun K' hK => ?_)); refine wp_append_lies _ (.tmp 76) (.tmp 81) 22 rfl u0.heap.size 31 i0 _ 16 16 Tryd.underlying22 HDI.out.hi HDI.out.hz HDI.out.hs HDI.out.hb rfl (by decide) u21 np (Ds (fsK l ch k)) rfl (o2.alloc _) ⟨wa.heap.size, 0, none⟩ 1 1 (U X) rfl (by rw [U_length, HXD.out.1]) (fun j u hu => World.news_of_block (heap_alloc_new wa _) j u (by simpa using hu)) (U_one _) (by decide) (by unfold maxLen; omega) (by omega) (Later.alloc_size hu1 _) _ rfl ?_; intro g2 cap2 wb own2 grow2 hat2 hlt2; refine hK _ _ ?_; clear hK K'))
        have o1' := (own1.alloc (.cells (U X).toArray 31)).kept grow2 (.inr (fun e => sep1 g1 rfl e.symm))
        have hu2 : Later u0 wb := (hu1.alloc hu1.size (.cells (U X).toArray 31)).grown grow2 (Later.alloc_size hu1 _) (fun b hb => (o2.lt b hb).1)
        have sep2 : ∀ g, (Value.slice (some ⟨g1, 0, none⟩) (np + 1) cap1).ownBlock = some g → (Value.slice (some ⟨g2, 0, none⟩) (np + 1) cap2).ownBlock ≠ some g := fun g hg e => by
          obtain rfl : g1 = g := by simpa [Value.ownBlock] using hg
          obtain rfl : g2 = g1 := by simpa [Value.ownBlock] using e
          rcases hat2 with h | h
          · exact sep1 g2 rfl h
          · have hh : g2 = wa.heap.size + 1 := by simpa using h
            omega
        go_roundw
        case rel => exact ⟨k + 1, by go_num, hlt, by rw [ep.out, List.length_append, ← HNP.out, N64_app]; exact o1', by rw [ef.out, List.length_append, ← HNF.out, Ds_snoc]; exact own2, Lib.hid sep2, hu2⟩
        case measure => simp [intOf]; omega
      · rw [if_neg hb] at hbt
        have ep : Hid (psK ch (k + 1) = psK ch k) := Lib.hid (by show psK ch k ++ _ = _; rw [if_neg hb, List.append_nil])
        have ef : Hid (fsK l ch (k + 1) = fsK l ch k) := Lib.hid (by show fsK l ch k ++ _ = _; rw [if_neg hb, List.append_nil])
        clear hb hfl hpl
        go_wp2
        go_roundw
        case rel => exact ⟨k + 1, by go_num, hlt, by rw [ep.out]; exact o1, by rw [ef.out]; exact o2, SEP, hu⟩
        case measure => simp [intOf]; omega
    · obtain rfl : k = n := by omega
      have hkn : ¬ (k : Int) < k := by omega
      have hpl := PLE.out k
      rw [PFL.out k] at o2
      obtain ⟨A3, c3, rfl, q1, q2, q3, _⟩ := own_form o1
      obtain ⟨A4, c4, rfl, r1, r2, r3, _⟩ := own_form o2
      replace lr := Later.trans_ lr hu
      replace bx := bx.keep hu; replace sl := sl.keep hu; replace xr := xr.keep hu; replace xo := xo.keep hu; replace p1 := p1.keep hu; replace p2 := p2.keep hu
      clear o1 o2 SEP hu hlt hk HLK HLD BIT PFL HDI HII
      have q2' : c3 ≤ 9223372036854775807 := by unfold maxLen at q2; omega
      have r2' : c4 ≤ 9223372036854775807 := by unfold maxLen at r2; omega
      clear q2 r2
      obtain ⟨np, hnp⟩ : ∃ z, z = (psK ch k).length := ⟨_, rfl⟩
      rw [← hnp] at HM HCM q1 q3 r1 r3 ⊢
      clear hnp hpl PLE
      go_wp2_with (go_at_call 21; refine (HM.out A3 c3 _ q3 q1 q2' lr).mono ?_; rintro e wm ⟨A5, c5, rfl, p3, h5⟩; replace lr := Later.trans_ lr h5; replace bx := bx.keep h5; replace sl := sl.keep h5; replace xr := xr.keep h5; replace xo := xo.keep h5; replace p1 := p1.keep h5; replace p2 := p2.keep h5; replace q3 := q3.keep h5; replace r3 := r3.keep h5; clear h5)
      clear HM
      refine wp_region_held_drew (S := fun w' => w'.rangeAt Br 0 (U rt) ∧ w'.rangeAt Bo 0 (U od) ∧ ∀ j v, (U dt)[j]? = some v → w'.cell? ((ad.add (a * 16)).add j) = some v) (by kernel_rfl) ⟨blk_at xr.drew, blk_at xo.drew, HCQ.out _ sl.drew⟩ (fun hHeld => ?_)
      refine wpAnyH_take (i := 0) (oi := ⟨some 89, .move (.tmp 17), _, _, _, none⟩) (v := .int .i64 0) rfl (by kernel_rfl) (by kernel_rfl) (by kernel_rfl) (fun _ _ _ h => h) (Or.inl ⟨by rfl, fun _ _ => rfl⟩) hHeld ?_
      simp only [Act.put, List.setIfInBounds_toArray, List.set_cons_zero, List.set_cons_succ]
      refine wpAnyH_take (i := 1) (oi := ⟨some 90, .binOp .neq 24 (.tmp 89) (.const (.int .i64 0)) 24, _, _, _, none⟩) (v := .bool false) rfl (by kernel_rfl) (by kernel_rfl) (by kernel_rfl) (fun _ _ _ h => h) (Or.inl ⟨by rfl, fun w _ => by go_simp⟩) hHeld ?_
      simp only [Act.put, List.setIfInBounds_toArray, List.set_cons_zero, List.set_cons_succ]
      refine wpAnyH_take (i := 2) (oi := ⟨some 91, .move (.tmp 90), _, _, _, none⟩) (v := .bool false) rfl (by kernel_rfl) (by kernel_rfl) (by kernel_rfl) (fun _ _ _ h => h) (Or.inl ⟨by rfl, fun _ _ => rfl⟩) hHeld ?_
      simp only [Act.put, List.setIfInBounds_toArray, List.set_cons_zero, List.set_cons_succ]
      refine wpAnyH_take (i := 3) (oi := ⟨some 92, .move (.tmp 19), _, _, _, _⟩) (v := .int .i64 0) rfl (by kernel_rfl) (by kernel_rfl) (by kernel_rfl) (fun _ _ _ h => h) (Or.inl ⟨by rfl, fun _ _ => rfl⟩) hHeld ?_
      simp only [Act.put, List.setIfInBounds_toArray, List.set_cons_zero, List.set_cons_succ]
      refine wpAnyH_take (i := 4) (oi := ⟨some 93, .binOp .neq 24 (.tmp 92) (.const (.int .i64 0)) 24, _, _, _, _⟩) (v := .bool false) rfl (by kernel_rfl) (by kernel_rfl) (by kernel_rfl) (fun _ _ _ h => h) (Or.inl ⟨by rfl, fun w _ => by go_simp⟩) hHeld ?_
      simp only [Act.put, List.setIfInBounds_toArray, List.set_cons_zero, List.set_cons_succ]
      refine wpAnyH_take (i := 5) (oi := ⟨some 94, .pick (.tmp 91) (.const (.bool true)) (.tmp 93), _, _, _, none⟩) (v := .bool false) rfl (by kernel_rfl) (by kernel_rfl) (by kernel_rfl) (fun _ _ _ h => h) (Or.inl ⟨by rfl, fun w _ => by go_simp⟩) hHeld ?_
      simp only [Act.put, List.setIfInBounds_toArray, List.set_cons_zero, List.set_cons_succ]
      refine wpAnyH_take (i := 6) (oi := ⟨some 95, .move (.tmp 94), _, _, _, none⟩) (v := .bool false) rfl (by kernel_rfl) (by kernel_rfl) (by kernel_rfl) (fun _ _ _ h => h) (Or.inl ⟨by rfl, fun _ _ => rfl⟩) hHeld ?_
      simp only [Act.put, List.setIfInBounds_toArray, List.set_cons_zero, List.set_cons_succ]
      refine wpAnyH_take (i := 7) (oi := ⟨some 96, .move (.tmp 24), _, _, _, _⟩) (v := .int .i64 0) rfl (by kernel_rfl) (by kernel_rfl) (by kernel_rfl) (fun _ _ _ h => h) (Or.inl ⟨by rfl, fun _ _ => rfl⟩) hHeld ?_
      simp only [Act.put, List.setIfInBounds_toArray, List.set_cons_zero, List.set_cons_succ]
      refine wpAnyH_take (i := 8) (oi := ⟨some 97, .binOp .neq 24 (.tmp 96) (.const (.int .i64 0)) 24, _, _, _, _⟩) (v := .bool false) rfl (by kernel_rfl) (by kernel_rfl) (by kernel_rfl) (fun _ _ _ h => h) (Or.inl ⟨by rfl, fun w _ => by go_simp⟩) hHeld ?_
      simp only [Act.put, List.setIfInBounds_toArray, List.set_cons_zero, List.set_cons_succ]
      refine wpAnyH_take (i := 9) (oi := ⟨some 98, .pick (.tmp 95) (.const (.bool true)) (.tmp 97), _, _, _, none⟩) (v := .bool false) rfl (by kernel_rfl) (by kernel_rfl) (by kernel_rfl) (fun _ _ _ h => h) (Or.inl ⟨by rfl, fun w _ => by go_simp⟩) hHeld ?_
      simp only [Act.put, List.setIfInBounds_toArray, List.set_cons_zero, List.set_cons_succ]
      refine wpAnyH_take (i := 10) (oi := ⟨some 99, .move (.tmp 98), _, _, _, none⟩) (v := .bool false) rfl (by kernel_rfl) (by kernel_rfl) (by kernel_rfl) (fun _ _ _ h => h) (Or.inl ⟨by rfl, fun _ _ => rfl⟩) hHeld ?_
      simp only [Act.put, List.setIfInBounds_toArray, List.set_cons_zero, List.set_cons_succ]
      refine wpAnyH_take (i := 11) (oi := ⟨some 100, .move (.tmp 0), _, _, _, _⟩) (v := .slice (some ad) k c) rfl (by kernel_rfl) (by kernel_rfl) (by kernel_rfl) (fun _ _ _ h => h) (Or.inl ⟨by rfl, fun _ _ => rfl⟩) hHeld ?_
      simp only [Act.put, List.setIfInBounds_toArray, List.set_cons_zero, List.set_cons_succ]
      refine wpAnyH_take (i := 12) (oi := ⟨some 101, .move (.tmp 12), _, _, _, _⟩) (v := .int .i64 a) rfl (by kernel_rfl) (by kernel_rfl) (by kernel_rfl) (fun _ _ _ h => h) (Or.inl ⟨by rfl, fun _ _ => rfl⟩) hHeld ?_
      simp only [Act.put, List.setIfInBounds_toArray, List.set_cons_zero, List.set_cons_succ]
      refine wpAnyH_take (i := 13) (oi := ⟨some 102, .indexAddr 22 (.tmp 100) (.tmp 101), _, _, _, _⟩) (v := .pointer (some (ad.add (a * 16)))) rfl (by kernel_rfl) (by kernel_rfl) (by kernel_rfl) (fun _ _ _ h => h) (Or.inl ⟨by rfl, fun w _ => by go_simp⟩) hHeld ?_
      simp only [Act.put, List.setIfInBounds_toArray, List.set_cons_zero, List.set_cons_succ]
      refine wpAnyH_take (i := 14) (oi := ⟨some 103, .load 31 (.tmp 102), _, _, _, _⟩) (v := .agg (U dt).toArray) rfl (by kernel_rfl) (by kernel_rfl) (by kernel_rfl) (fun _ _ _ h => h) (yieldsIf_load_addr (by rfl) _ _ rfl _ (by rfl) (U dt) _ (fun w h => h.2.2) Tryd.underlying31 rfl (dig_sz HDT.out.1)) hHeld ?_
      simp only [Act.put, List.setIfInBounds_toArray, List.set_cons_zero, List.set_cons_succ]
      refine wpAnyH_take (i := 15) (oi := ⟨some 104, .move (.tmp 12), _, _, _, _⟩) (v := .int .i64 a) rfl (by kernel_rfl) (by kernel_rfl) (by kernel_rfl) (fun _ _ _ h => h) (Or.inl ⟨by rfl, fun _ _ => rfl⟩) hHeld ?_
      simp only [Act.put, List.setIfInBounds_toArray, List.set_cons_zero, List.set_cons_succ]
      refine wpAnyH_take (i := 16) (oi := ⟨some 105, .move (.tmp 11), _, _, _, _⟩) (v := .int .i64 k) rfl (by kernel_rfl) (by kernel_rfl) (by kernel_rfl) (fun _ _ _ h => h) (Or.inl ⟨by rfl, fun _ _ => rfl⟩) hHeld ?_
      simp only [Act.put, List.setIfInBounds_toArray, List.set_cons_zero, List.set_cons_succ]
      refine wpAnyH_take (i := 17) (oi := ⟨some 106, .move (.tmp 16), _, _, _, _⟩) (v := .slice A1 J1.length c1) rfl (by kernel_rfl) (by kernel_rfl) (by kernel_rfl) (fun _ _ _ h => h) (Or.inl ⟨by rfl, fun _ _ => rfl⟩) hHeld ?_
      simp only [Act.put, List.setIfInBounds_toArray, List.set_cons_zero, List.set_cons_succ]
      refine wpAnyH_take (i := 18) (oi := ⟨some 107, .load 31 (.tmp 14), _, _, _, _⟩) (v := .agg (U rt).toArray) rfl (by kernel_rfl) (by kernel_rfl) (by kernel_rfl) (fun _ _ _ h => h) (yieldsIf_load_mid (by rfl) _ _ rfl _ _ rfl _ _ (fun w h => h.1) Tryd.underlying31 rfl (dig_sz HDR.out.1)) hHeld ?_
      simp only [Act.put, List.setIfInBounds_toArray, List.set_cons_zero, List.set_cons_succ]
      refine wpAnyH_ready (rs := [19]) (by kernel_rfl) (by simp) (AllReadyH.cons (o := ⟨some 108, .call { callee := .value (.func 29), args := #[.tmp 103, .tmp 104, .tmp 105, .tmp 106, .tmp 107], argTypes := #[31, 3, 3, 22, 31] }, _, _, _, _⟩) rfl (fun K' hK => ?_) (AllReadyH.nil))
      go_simp
      replace bx := bx.drew; replace sl := sl.drew; replace xr := xr.drew; replace xo := xo.drew; replace p1 := p1.drew; replace p2 := p2.drew; replace p3 := p3.drew; replace q3 := q3.drew; replace r3 := r3.drew; replace lr := lr.drew
      refine (HCI.out A1 c1 _ p1 lr).mono ?_
      rintro e wx ⟨rfl, h6⟩
      replace bx := bx.keep h6; replace sl := sl.keep h6; replace xr := xr.keep h6; replace xo := xo.keep h6; replace p1 := p1.keep h6; replace p2 := p2.keep h6; replace p3 := p3.keep h6; replace q3 := q3.keep h6; replace r3 := r3.keep h6; replace lr := Later.trans_ lr h6
      refine hK.out _ _ ⟨blk_at xr, blk_at xo, HCQ.out _ sl⟩ (fun hHeld => ?_)
      clear hK K'
      try simp only [Act.put, List.setIfInBounds_toArray, List.set_cons_zero, List.set_cons_succ]
      refine wpAnyH_take (i := 20) (oi := ⟨some 109, .unOp .not 4 (.tmp 108), _, _, _, _⟩) (v := .bool false) rfl (by kernel_rfl) (by kernel_rfl) (by kernel_rfl) (fun _ _ _ h => h) (Or.inl ⟨by rfl, fun w _ => by go_simp⟩) hHeld ?_
      simp only [Act.put, List.setIfInBounds_toArray, List.set_cons_zero, List.set_cons_succ]
      refine wpAnyH_take (i := 21) (oi := ⟨some 110, .pick (.tmp 99) (.const (.bool true)) (.tmp 109), _, _, _, none⟩) (v := .bool false) rfl (by kernel_rfl) (by kernel_rfl) (by kernel_rfl) (fun _ _ _ h => h) (Or.inl ⟨by rfl, fun w _ => by go_simp⟩) hHeld ?_
      simp only [Act.put, List.setIfInBounds_toArray, List.set_cons_zero, List.set_cons_succ]
      refine wpAnyH_take (i := 22) (oi := ⟨some 111, .move (.tmp 110), _, _, _, none⟩) (v := .bool false) rfl (by kernel_rfl) (by kernel_rfl) (by kernel_rfl) (fun _ _ _ h => h) (Or.inl ⟨by rfl, fun _ _ => rfl⟩) hHeld ?_
      simp only [Act.put, List.setIfInBounds_toArray, List.set_cons_zero, List.set_cons_succ]
      refine wpAnyH_take (i := 23) (oi := ⟨some 112, .move (.tmp 13), _, _, _, _⟩) (v := .int .i64 f) rfl (by kernel_rfl) (by kernel_rfl) (by kernel_rfl) (fun _ _ _ h => h) (Or.inl ⟨by rfl, fun _ _ => rfl⟩) hHeld ?_
      simp only [Act.put, List.setIfInBounds_toArray, List.set_cons_zero, List.set_cons_succ]
      refine wpAnyH_take (i := 24) (oi := ⟨some 113, .move (.tmp 11), _, _, _, _⟩) (v := .int .i64 k) rfl (by kernel_rfl) (by kernel_rfl) (by kernel_rfl) (fun _ _ _ h => h) (Or.inl ⟨by rfl, fun _ _ => rfl⟩) hHeld ?_
      simp only [Act.put, List.setIfInBounds_toArray, List.set_cons_zero, List.set_cons_succ]
      refine wpAnyH_take (i := 25) (oi := ⟨some 114, .load 31 (.tmp 15), _, _, _, _⟩) (v := .agg (U od).toArray) rfl (by kernel_rfl) (by kernel_rfl) (by kernel_rfl) (fun _ _ _ h => h) (yieldsIf_load_mid (by rfl) _ _ rfl _ _ rfl _ _ (fun w h => h.2.1) Tryd.underlying31 rfl (dig_sz HDO.out.1)) hHeld ?_
      simp only [Act.put, List.setIfInBounds_toArray, List.set_cons_zero, List.set_cons_succ]
      refine wpAnyH_take (i := 26) (oi := ⟨some 115, .load 31 (.tmp 14), _, _, _, _⟩) (v := .agg (U rt).toArray) rfl (by kernel_rfl) (by kernel_rfl) (by kernel_rfl) (fun _ _ _ h => h) (yieldsIf_load_mid (by rfl) _ _ rfl _ _ rfl _ _ (fun w h => h.1) Tryd.underlying31 rfl (dig_sz HDR.out.1)) hHeld ?_
      simp only [Act.put, List.setIfInBounds_toArray, List.set_cons_zero, List.set_cons_succ]
      refine wpAnyH_take (i := 27) (oi := ⟨some 116, .move (.tmp 18), _, _, _, _⟩) (v := .slice A2 J2.length c2) rfl (by kernel_rfl) (by kernel_rfl) (by kernel_rfl) (fun _ _ _ h => h) (Or.inl ⟨by rfl, fun _ _ => rfl⟩) hHeld ?_
      simp only [Act.put, List.setIfInBounds_toArray, List.set_cons_zero, List.set_cons_succ]
      refine wpAnyH_ready (rs := [28]) (by kernel_rfl) (by simp) (AllReadyH.cons (o := ⟨some 117, .call { callee := .value (.func 30), args := #[.tmp 112, .tmp 113, .tmp 114, .tmp 115, .tmp 116], argTypes := #[3, 3, 31, 31, 22] }, _, _, _, _⟩) rfl (fun K' hK => ?_) (AllReadyH.nil))
      go_simp
      refine (HCC.out od rt HDO.out HDR.out true QA.out A2 c2 _ p2 lr).mono ?_
      rintro e wy ⟨rfl, h7⟩
      replace bx := bx.keep h7; replace sl := sl.keep h7; replace xr := xr.keep h7; replace xo := xo.keep h7; replace p1 := p1.keep h7; replace p2 := p2.keep h7; replace p3 := p3.keep h7; replace q3 := q3.keep h7; replace r3 := r3.keep h7; replace lr := Later.trans_ lr h7
      refine hK.out _ _ ⟨blk_at xr, blk_at xo, HCQ.out _ sl⟩ (fun hHeld => ?_)
      clear hK K'
      try simp only [Act.put, List.setIfInBounds_toArray, List.set_cons_zero, List.set_cons_succ]
      refine wpAnyH_take (i := 29) (oi := ⟨some 118, .unOp .not 4 (.tmp 117), _, _, _, _⟩) (v := .bool false) rfl (by kernel_rfl) (by kernel_rfl) (by kernel_rfl) (fun _ _ _ h => h) (Or.inl ⟨by rfl, fun w _ => by go_simp⟩) hHeld ?_
      simp only [Act.put, List.setIfInBounds_toArray, List.set_cons_zero, List.set_cons_succ]
      refine wpAnyH_take (i := 30) (oi := ⟨some 119, .pick (.tmp 111) (.const (.bool true)) (.tmp 118), _, _, _, none⟩) (v := .bool false) rfl (by kernel_rfl) (by kernel_rfl) (by kernel_rfl) (fun _ _ _ h => h) (Or.inl ⟨by rfl, fun w _ => by go_simp⟩) hHeld ?_
      simp only [Act.put, List.setIfInBounds_toArray, List.set_cons_zero, List.set_cons_succ]
      refine wpAnyH_take (i := 31) (oi := ⟨some 120, .move (.tmp 119), _, _, _, none⟩) (v := .bool false) rfl (by kernel_rfl) (by kernel_rfl) (by kernel_rfl) (fun _ _ _ h => h) (Or.inl ⟨by rfl, fun _ _ => rfl⟩) hHeld ?_
      simp only [Act.put, List.setIfInBounds_toArray, List.set_cons_zero, List.set_cons_succ]
      refine wpAnyH_take (i := 32) (oi := ⟨some 121, .move (.tmp 11), _, _, _, _⟩) (v := .int .i64 k) rfl (by kernel_rfl) (by kernel_rfl) (by kernel_rfl) (fun _ _ _ h => h) (Or.inl ⟨by rfl, fun _ _ => rfl⟩) hHeld ?_
      simp only [Act.put, List.setIfInBounds_toArray, List.set_cons_zero, List.set_cons_succ]
      refine wpAnyH_take (i := 33) (oi := ⟨some 122, .move (.tmp 20), _, _, _, _⟩) (v := .slice A3 np c3) rfl (by kernel_rfl) (by kernel_rfl) (by kernel_rfl) (fun _ _ _ h => h) (Or.inl ⟨by rfl, fun _ _ => rfl⟩) hHeld ?_
      simp only [Act.put, List.setIfInBounds_toArray, List.set_cons_zero, List.set_cons_succ]
      refine wpAnyH_take (i := 34) (oi := ⟨some 123, .move (.tmp 21), _, _, _, _⟩) (v := .slice A4 np c4) rfl (by kernel_rfl) (by kernel_rfl) (by kernel_rfl) (fun _ _ _ h => h) (Or.inl ⟨by rfl, fun _ _ => rfl⟩) hHeld ?_
      simp only [Act.put, List.setIfInBounds_toArray, List.set_cons_zero, List.set_cons_succ]
      refine wpAnyH_take (i := 35) (oi := ⟨some 124, .move (.tmp 23), _, _, _, _⟩) (v := .slice A5 J3.length c5) rfl (by kernel_rfl) (by kernel_rfl) (by kernel_rfl) (fun _ _ _ h => h) (Or.inl ⟨by rfl, fun _ _ => rfl⟩) hHeld ?_
      simp only [Act.put, List.setIfInBounds_toArray, List.set_cons_zero, List.set_cons_succ]
      refine wpAnyH_take (i := 36) (oi := ⟨some 125, .load 31 (.tmp 14), _, _, _, _⟩) (v := .agg (U rt).toArray) rfl (by kernel_rfl) (by kernel_rfl) (by kernel_rfl) (fun _ _ _ h => h) (yieldsIf_load_mid (by rfl) _ _ rfl _ _ rfl _ _ (fun w h => h.1) Tryd.underlying31 rfl (dig_sz HDR.out.1)) hHeld ?_
      simp only [Act.put, List.setIfInBounds_toArray, List.set_cons_zero, List.set_cons_succ]
      refine wpAnyH_ready (rs := [37]) (by kernel_rfl) (by simp) (AllReadyH.cons (o := ⟨some 126, .call { callee := .value (.func 23), args := #[.tmp 121, .tmp 122, .tmp 123, .tmp 124, .tmp 125], argTypes := #[3, 37, 22, 22, 31] }, _, _, _, _⟩) rfl (fun K' hK => ?_) (AllReadyH.nil))
      go_simp
      refine (HCM.out A3 A4 A5 c3 c4 c5 _ q3 r3 q1 r1 q2' r2' p3 HMD.out lr).mono ?_
      rintro e wz ⟨rfl, h8⟩
      replace bx := bx.keep h8; replace sl := sl.keep h8; replace xr := xr.keep h8; replace xo := xo.keep h8; replace p1 := p1.keep h8; replace p2 := p2.keep h8; replace p3 := p3.keep h8; replace q3 := q3.keep h8; replace r3 := r3.keep h8; replace lr := Later.trans_ lr h8
      refine hK.out _ _ ⟨blk_at xr, blk_at xo, HCQ.out _ sl⟩ (fun hHeld => ?_)
      clear hK K'
      try simp only [Act.put, List.setIfInBounds_toArray, List.set_cons_zero, List.set_cons_succ]
      refine wpAnyH_take (i := 38) (oi := ⟨some 127, .unOp .not 4 (.tmp 126), _, _, _, _⟩) (v := .bool false) rfl (by kernel_rfl) (by kernel_rfl) (by kernel_rfl) (fun _ _ _ h => h) (Or.inl ⟨by rfl, fun w _ => by go_simp⟩) hHeld ?_
      simp only [Act.put, List.setIfInBounds_toArray, List.set_cons_zero, List.set_cons_succ]
      refine wpAnyH_take (i := 39) (oi := ⟨some 128, .pick (.tmp 120) (.const (.bool true)) (.tmp 127), _, _, _, none⟩) (v := .bool false) rfl (by kernel_rfl) (by kernel_rfl) (by kernel_rfl) (fun _ _ _ h => h) (Or.inl ⟨by rfl, fun w _ => by go_simp⟩) hHeld ?_
      simp only [Act.put, List.setIfInBounds_toArray, List.set_cons_zero, List.set_cons_succ]
      refine wpAnyH_done (by kernel_rfl) ?_ _
      clear hHeld
      clear HCI HCM HCQ p1 p3 q3 r3 HMD sl
      go_wp2
      go_loopw [25] (fun v wr => ∃ (j q : Nat), Hid (q = 2 ^ j) ∧ v = .int .i64 q ∧ q ≤ 80 ∧ Hid (j = 0 ∨ 2 ^ (j - 1) < f) ∧ wr = wz) (fun v _ => f - (intOf v).toNat)
      case atStart => exact ⟨0, 1, Lib.hid rfl, rfl, by omega, Lib.hid (.inl rfl), rfl⟩
      case round =>
        obtain ⟨j, q, hq, rfl, hq80, hj, rfl⟩ := hrel
        by_cases hqf : q < f
        · have hqi : (q : Int) < f := by omega
          have hq1 : 1 ≤ q := by rw [hq.out]; exact Nat.one_le_two_pow
          go_wp2
          go_roundw
          case rel => exact ⟨j + 1, 2 * q, Lib.hid (by rw [hq.out, Nat.pow_succ]; omega), by go_num, by omega, Lib.hid (.inr (by rw [show j + 1 - 1 = j by omega, ← hq.out]; exact hqf)), by trivial⟩
          case measure => simp [intOf]; omega
        · have hqi : ¬ (q : Int) < f := by omega
          have hq1 : 1 ≤ q := by rw [hq.out]; exact Nat.one_le_two_pow
          have hgd : Tryd.prog.eqGuardType Tryd.prog.depth 31 = false := by kernel_rfl
          have HNP2 : q ≠ f → f = 0 ∨ ∀ j : Nat, f ≠ 2 ^ j := fun hne => .inr (fun j' e => by
            have h1 : 2 ^ j' < 2 ^ j := by rw [← e, ← hq.out]; omega
            have h2 : j' < j := (Nat.pow_lt_pow_iff_right (by omega)).1 h1
            rcases hj.out with h | h
            · omega
            · have h3 : 2 ^ j' ≤ 2 ^ (j - 1) := Nat.pow_le_pow_right (by omega) (by omega)
              omega)
          have qx2 : ∀ w' : World, (Op.equalIn 10000 31 (.agg (U x).toArray) (.agg (U rt).toArray)).run Tryd.prog w' = .ok (decide (x = rt)) w' := fun w' => dig_eq HDX.out.1 HDR.out.1 w'
          have qx1 : ∀ w' : World, (Op.equalIn 10000 31 (.agg (U x).toArray) (.agg (U od).toArray)).run Tryd.prog w' = .ok (decide (x = od)) w' := fun w' => dig_eq HDX.out.1 HDO.out.1 w'
          have HN1 := Lib.hid fun (hp : f = 0 ∨ f = l.length ∨ ∀ j : Nat, f ≠ 2 ^ j) => HCC.out x rt HDX.out HDR.out _ (QN.out x hp) A2 c2
          have HN2 := Lib.hid fun (h0 : 1 ≤ f) => HCC.out od x HDO.out HDX.out _ (QO.out x h0) A2 c2
          obtain ⟨z1, hz1⟩ : ∃ z, z = decide (x = od) := ⟨_, rfl⟩
          obtain ⟨z2, hz2⟩ : ∃ z, z = decide (x = rt) := ⟨_, rfl⟩
          rw [← hz1] at HN1 qx1
          rw [← hz2] at HN2 qx2
          have HNQ := Lib.hid HNP2
          clear hz1 hz2 hj hq HNP2 HCC QN QO QA
          by_cases hqe : q = f
          · subst hqe
            by_cases hqn : q = k
            · subst hqn
              have H24 := Lib.hid (HN1.out (.inr (.inl HLL.out.symm)))
              have H26 := Lib.hid (HN2.out hn1)
              have hne0 : ((q : Int) == 0) = false := beq_eq_false_iff_ne.2 (by omega)
              clear HN1 HN2 HNQ
              go_wp2
              refine wp_region_held_drew (S := fun w' => w'.rangeAt B0 0 (U x) ∧ w'.rangeAt Br 0 (U rt) ∧ w'.rangeAt Bo 0 (U od)) (by kernel_rfl) ⟨blk_at bx.drew, blk_at xr.drew, blk_at xo.drew⟩ (fun hHeld => ?_)
              refine wpAnyH_take (i := 0) (oi := ⟨some 134, .move (.tmp 25), _, _, _, none⟩) (v := .int .i64 q) rfl (by kernel_rfl) (by kernel_rfl) (by kernel_rfl) (fun _ _ _ h => h) (Or.inl ⟨by rfl, fun _ _ => rfl⟩) hHeld ?_
              simp only [Act.put, List.setIfInBounds_toArray, List.set_cons_zero, List.set_cons_succ]
              refine wpAnyH_take (i := 1) (oi := ⟨some 135, .move (.tmp 13), _, _, _, none⟩) (v := .int .i64 q) rfl (by kernel_rfl) (by kernel_rfl) (by kernel_rfl) (fun _ _ _ h => h) (Or.inl ⟨by rfl, fun _ _ => rfl⟩) hHeld ?_
              simp only [Act.put, List.setIfInBounds_toArray, List.set_cons_zero, List.set_cons_succ]
              refine wpAnyH_take (i := 2) (oi := ⟨some 136, .binOp .neq 3 (.tmp 134) (.tmp 135) 3, _, _, _, none⟩) (v := .bool false) rfl (by kernel_rfl) (by kernel_rfl) (by kernel_rfl) (fun _ _ _ h => h) (Or.inl ⟨by rfl, fun w _ => by go_simp⟩) hHeld ?_
              simp only [Act.put, List.setIfInBounds_toArray, List.set_cons_zero, List.set_cons_succ]
              refine wpAnyH_take (i := 3) (oi := ⟨some 137, .move (.tmp 136), _, _, _, none⟩) (v := .bool false) rfl (by kernel_rfl) (by kernel_rfl) (by kernel_rfl) (fun _ _ _ h => h) (Or.inl ⟨by rfl, fun _ _ => rfl⟩) hHeld ?_
              simp only [Act.put, List.setIfInBounds_toArray, List.set_cons_zero, List.set_cons_succ]
              refine wpAnyH_take (i := 4) (oi := ⟨some 138, .move (.tmp 13), _, _, _, _⟩) (v := .int .i64 q) rfl (by kernel_rfl) (by kernel_rfl) (by kernel_rfl) (fun _ _ _ h => h) (Or.inl ⟨by rfl, fun _ _ => rfl⟩) hHeld ?_
              simp only [Act.put, List.setIfInBounds_toArray, List.set_cons_zero, List.set_cons_succ]
              refine wpAnyH_take (i := 5) (oi := ⟨some 139, .move (.tmp 11), _, _, _, _⟩) (v := .int .i64 q) rfl (by kernel_rfl) (by kernel_rfl) (by kernel_rfl) (fun _ _ _ h => h) (Or.inl ⟨by rfl, fun _ _ => rfl⟩) hHeld ?_
              simp only [Act.put, List.setIfInBounds_toArray, List.set_cons_zero, List.set_cons_succ]
              refine wpAnyH_take (i := 6) (oi := ⟨some 140, .binOp .eql 3 (.tmp 138) (.tmp 139) 3, _, _, _, _⟩) (v := .bool true) rfl (by kernel_rfl) (by kernel_rfl) (by kernel_rfl) (fun _ _ _ h => h) (Or.inl ⟨by rfl, fun w _ => by go_simp⟩) hHeld ?_
              simp only [Act.put, List.setIfInBounds_toArray, List.set_cons_zero, List.set_cons_succ]
              refine wpAnyH_take (i := 7) (oi := ⟨some 141, .pick (.tmp 137) (.const (.bool true)) (.tmp 140), _, _, _, none⟩) (v := .bool true) rfl (by kernel_rfl) (by kernel_rfl) (by kernel_rfl) (fun _ _ _ h => h) (Or.inl ⟨by rfl, fun w _ => by go_simp⟩) hHeld ?_
              simp only [Act.put, List.setIfInBounds_toArray, List.set_cons_zero, List.set_cons_succ]
              refine wpAnyH_take (i := 8) (oi := ⟨some 142, .move (.tmp 141), _, _, _, none⟩) (v := .bool true) rfl (by kernel_rfl) (by kernel_rfl) (by kernel_rfl) (fun _ _ _ h => h) (Or.inl ⟨by rfl, fun _ _ => rfl⟩) hHeld ?_
              simp only [Act.put, List.setIfInBounds_toArray, List.set_cons_zero, List.set_cons_succ]
              refine wpAnyH_take (i := 9) (oi := ⟨some 143, .move (.tmp 13), _, _, _, _⟩) (v := .int .i64 q) rfl (by kernel_rfl) (by kernel_rfl) (by kernel_rfl) (fun _ _ _ h => h) (Or.inl ⟨by rfl, fun _ _ => rfl⟩) hHeld ?_
              simp only [Act.put, List.setIfInBounds_toArray, List.set_cons_zero, List.set_cons_succ]
              refine wpAnyH_take (i := 10) (oi := ⟨some 144, .move (.tmp 11), _, _, _, _⟩) (v := .int .i64 q) rfl (by kernel_rfl) (by kernel_rfl) (by kernel_rfl) (fun _ _ _ h => h) (Or.inl ⟨by rfl, fun _ _ => rfl⟩) hHeld ?_
              simp only [Act.put, List.setIfInBounds_toArray, List.set_cons_zero, List.set_cons_succ]
              refine wpAnyH_take (i := 11) (oi := ⟨some 145, .load 31 (.tmp 9), _, _, _, _⟩) (v := .agg (U x).toArray) rfl (by kernel_rfl) (by kernel_rfl) (by kernel_rfl) (fun _ _ _ h => h) (yieldsIf_load_mid (by rfl) _ _ rfl _ _ rfl _ _ (fun w h => h.1) Tryd.underlying31 rfl (dig_sz HDX.out.1)) hHeld ?_
              simp only [Act.put, List.setIfInBounds_toArray, List.set_cons_zero, List.set_cons_succ]
              refine wpAnyH_take (i := 12) (oi := ⟨some 146, .load 31 (.tmp 14), _, _, _, _⟩) (v := .agg (U rt).toArray) rfl (by kernel_rfl) (by kernel_rfl) (by kernel_rfl) (fun _ _ _ h => h) (yieldsIf_load_mid (by rfl) _ _ rfl _ _ rfl _ _ (fun w h => h.2.1) Tryd.underlying31 rfl (dig_sz HDR.out.1)) hHeld ?_
              simp only [Act.put, List.setIfInBounds_toArray, List.set_cons_zero, List.set_cons_succ]
              refine wpAnyH_take (i := 13) (oi := ⟨some 147, .move (.tmp 18), _, _, _, _⟩) (v := .slice A2 J2.length c2) rfl (by kernel_rfl) (by kernel_rfl) (by kernel_rfl) (fun _ _ _ h => h) (Or.inl ⟨by rfl, fun _ _ => rfl⟩) hHeld ?_
              simp only [Act.put, List.setIfInBounds_toArray, List.set_cons_zero, List.set_cons_succ]
              refine wpAnyH_take (i := 15) (oi := ⟨some 149, .load 31 (.tmp 9), _, _, _, _⟩) (v := .agg (U x).toArray) rfl (by kernel_rfl) (by kernel_rfl) (by kernel_rfl) (fun _ _ _ h => h) (yieldsIf_load_mid (by rfl) _ _ rfl _ _ rfl _ _ (fun w h => h.1) Tryd.underlying31 rfl (dig_sz HDX.out.1)) hHeld ?_
              simp only [Act.put, List.setIfInBounds_toArray, List.set_cons_zero, List.set_cons_succ]
              refine wpAnyH_take (i := 16) (oi := ⟨some 150, .load 31 (.tmp 15), _, _, _, _⟩) (v := .agg (U od).toArray) rfl (by kernel_rfl) (by kernel_rfl) (by kernel_rfl) (fun _ _ _ h => h) (yieldsIf_load_mid (by rfl) _ _ rfl _ _ rfl _ _ (fun w h => h.2.2) Tryd.underlying31 rfl (dig_sz HDO.out.1)) hHeld ?_
              simp only [Act.put, List.setIfInBounds_toArray, List.set_cons_zero, List.set_cons_succ]
              refine wpAnyH_take (i := 17) (oi := ⟨some 151, .binOp .eql 31 (.tmp 149) (.tmp 150) 31, _, _, _, _⟩) (v := .bool z1) rfl (by kernel_rfl) (by kernel_rfl) (by kernel_rfl) (fun _ _ _ h => h) (Or.inl ⟨by rfl, fun w _ => by go_simp⟩) hHeld ?_
              simp only [Act.put, List.setIfInBounds_toArray, List.set_cons_zero, List.set_cons_succ]
              refine wpAnyH_ready (rs := [14]) (by kernel_rfl) (by simp) (AllReadyH.cons (o := ⟨some 148, .call { callee := .value (.func 30), args := #[.tmp 143, .tmp 144, .tmp 145, .tmp 146, .tmp 147], argTypes := #[3, 3, 31, 31, 22] }, _, _, _, _⟩) rfl (fun K' hK => ?_) (AllReadyH.nil))
              go_simp
              replace bx := bx.drew; replace xr := xr.drew; replace xo := xo.drew; replace p2 := p2.drew; replace lr := lr.drew
              refine (H24.out _ p2 lr).mono ?_
              rintro e wu ⟨rfl, h9⟩
              replace bx := bx.keep h9; replace xr := xr.keep h9; replace xo := xo.keep h9; replace p2 := p2.keep h9; replace lr := Later.trans_ lr h9
              refine hK.out _ _ ⟨blk_at bx, blk_at xr, blk_at xo⟩ (fun hHeld => ?_)
              clear hK K'
              try simp only [Act.put, List.setIfInBounds_toArray, List.set_cons_zero, List.set_cons_succ]
              refine wpAnyH_take (i := 18) (oi := ⟨some 152, .binOp .neq 4 (.tmp 148) (.tmp 151) 4, _, _, _, _⟩) (v := .bool false) rfl (by kernel_rfl) (by kernel_rfl) (by kernel_rfl) (fun _ _ _ h => h) (Or.inl ⟨by rfl, fun w _ => by go_simp⟩) hHeld ?_
              simp only [Act.put, List.setIfInBounds_toArray, List.set_cons_zero, List.set_cons_succ]
              refine wpAnyH_take (i := 19) (oi := ⟨some 153, .pick (.tmp 142) (.tmp 152) (.const (.bool false)), _, _, _, none⟩) (v := .bool false) rfl (by kernel_rfl) (by kernel_rfl) (by kernel_rfl) (fun _ _ _ h => h) (Or.inl ⟨by rfl, fun w _ => by go_simp⟩) hHeld ?_
              simp only [Act.put, List.setIfInBounds_toArray, List.set_cons_zero, List.set_cons_succ]
              refine wpAnyH_done (by kernel_rfl) ?_ _
              clear hHeld
              go_wp2
              refine wp_region_held_drew (S := fun w' => w'.rangeAt B0 0 (U x) ∧ w'.rangeAt Br 0 (U rt) ∧ w'.rangeAt Bo 0 (U od)) (by kernel_rfl) ⟨blk_at bx.drew, blk_at xr.drew, blk_at xo.drew⟩ (fun hHeld => ?_)
              refine wpAnyH_ready (rs := [0]) (by kernel_rfl) (by simp) (AllReadyH.cons (o := ⟨some 154, .call { callee := .value (.func 9), args := #[], argTypes := #[] }, _, _, _, none⟩) rfl (fun K' hK => ?_) (AllReadyH.nil))
              go_simp
              replace bx := bx.drew; replace xr := xr.drew; replace xo := xo.drew; replace p2 := p2.drew; replace lr := lr.drew
              refine (HSN.out _ lr).mono ?_
              rintro e wv ⟨rfl, h10⟩
              replace bx := bx.keep h10; replace xr := xr.keep h10; replace xo := xo.keep h10; replace p2 := p2.keep h10; replace lr := Later.trans_ lr h10
              refine hK.out _ _ ⟨blk_at bx, blk_at xr, blk_at xo⟩ (fun hHeld => ?_)
              clear hK K'
              try simp only [Act.put, List.setIfInBounds_toArray, List.set_cons_zero, List.set_cons_succ]
              refine wpAnyH_take (i := 1) (oi := ⟨some 155, .move (.tmp 154), _, _, _, none⟩) (v := .bool true) rfl (by kernel_rfl) (by kernel_rfl) (by kernel_rfl) (fun _ _ _ h => h) (Or.inl ⟨by rfl, fun _ _ => rfl⟩) hHeld ?_
              simp only [Act.put, List.setIfInBounds_toArray, List.set_cons_zero, List.set_cons_succ]
              refine wpAnyH_take (i := 2) (oi := ⟨some 156, .move (.tmp 13), _, _, _, _⟩) (v := .int .i64 q) rfl (by kernel_rfl) (by kernel_rfl) (by kernel_rfl) (fun _ _ _ h => h) (Or.inl ⟨by rfl, fun _ _ => rfl⟩) hHeld ?_
              simp only [Act.put, List.setIfInBounds_toArray, List.set_cons_zero, List.set_cons_succ]
              refine wpAnyH_take (i := 3) (oi := ⟨some 157, .binOp .eql 3 (.tmp 156) (.const (.int .i64 0)) 3, _, _, _, _⟩) (v := .bool false) rfl (by kernel_rfl) (by kernel_rfl) (by kernel_rfl) (fun _ _ _ h => h) (Or.inl ⟨by rfl, fun w _ => by go_simp⟩) hHeld ?_
              simp only [Act.put, List.setIfInBounds_toArray, List.set_cons_zero, List.set_cons_succ]
              refine wpAnyH_take (i := 4) (oi := ⟨some 158, .move (.tmp 157), _, _, _, _⟩) (v := .bool false) rfl (by kernel_rfl) (by kernel_rfl) (by kernel_rfl) (fun _ _ _ h => h) (Or.inl ⟨by rfl, fun _ _ => rfl⟩) hHeld ?_
              simp only [Act.put, List.setIfInBounds_toArray, List.set_cons_zero, List.set_cons_succ]
              refine wpAnyH_take (i := 5) (oi := ⟨some 159, .move (.tmp 13), _, _, _, _⟩) (v := .int .i64 q) rfl (by kernel_rfl) (by kernel_rfl) (by kernel_rfl) (fun _ _ _ h => h) (Or.inl ⟨by rfl, fun _ _ => rfl⟩) hHeld ?_
              simp only [Act.put, List.setIfInBounds_toArray, List.set_cons_zero, List.set_cons_succ]
              refine wpAnyH_take (i := 6) (oi := ⟨some 160, .move (.tmp 11), _, _, _, _⟩) (v := .int .i64 q) rfl (by kernel_rfl) (by kernel_rfl) (by kernel_rfl) (fun _ _ _ h => h) (Or.inl ⟨by rfl, fun _ _ => rfl⟩) hHeld ?_
              simp only [Act.put, List.setIfInBounds_toArray, List.set_cons_zero, List.set_cons_succ]
              refine wpAnyH_take (i := 7) (oi := ⟨some 161, .load 31 (.tmp 15), _, _, _, _⟩) (v := .agg (U od).toArray) rfl (by kernel_rfl) (by kernel_rfl) (by kernel_rfl) (fun _ _ _ h => h) (yieldsIf_load_mid (by rfl) _ _ rfl _ _ rfl _ _ (fun w h => h.2.2) Tryd.underlying31 rfl (dig_sz HDO.out.1)) hHeld ?_
              simp only [Act.put, List.setIfInBounds_toArray, List.set_cons_zero, List.set_cons_succ]
              refine wpAnyH_take (i := 8) (oi := ⟨some 162, .load 31 (.tmp 9), _, _, _, _⟩) (v := .agg (U x).toArray) rfl (by kernel_rfl) (by kernel_rfl) (by kernel_rfl) (fun _ _ _ h => h) (yieldsIf_load_mid (by rfl) _ _ rfl _ _ rfl _ _ (fun w h => h.1) Tryd.underlying31 rfl (dig_sz HDX.out.1)) hHeld ?_
              simp only [Act.put, List.setIfInBounds_toArray, List.set_cons_zero, List.set_cons_succ]
              refine wpAnyH_take (i := 9) (oi := ⟨some 163, .move (.tmp 18), _, _, _, _⟩) (v := .slice A2 J2.length c2) rfl (by kernel_rfl) (by kernel_rfl) (by kernel_rfl) (fun _ _ _ h => h) (Or.inl ⟨by rfl, fun _ _ => rfl⟩) hHeld ?_
              simp only [Act.put, List.setIfInBounds_toArray, List.set_cons_zero, List.set_cons_succ]
              refine wpAnyH_take (i := 11) (oi := ⟨some 165, .load 31 (.tmp 9), _, _, _, _⟩) (v := .agg (U x).toArray) rfl (by kernel_rfl) (by kernel_rfl) (by kernel_rfl) (fun _ _ _ h => h) (yieldsIf_load_mid (by rfl) _ _ rfl _ _ rfl _ _ (fun w h => h.1) Tryd.underlying31 rfl (dig_sz HDX.out.1)) hHeld ?_
              simp only [Act.put, List.setIfInBounds_toArray, List.set_cons_zero, List.set_cons_succ]
              refine wpAnyH_take (i := 12) (oi := ⟨some 166, .load 31 (.tmp 14), _, _, _, _⟩) (v := .agg (U rt).toArray) rfl (by kernel_rfl) (by kernel_rfl) (by kernel_rfl) (fun _ _ _ h => h) (yieldsIf_load_mid (by rfl) _ _ rfl _ _ rfl _ _ (fun w h => h.2.1) Tryd.underlying31 rfl (dig_sz HDR.out.1)) hHeld ?_
              simp only [Act.put, List.setIfInBounds_toArray, List.set_cons_zero, List.set_cons_succ]
              refine wpAnyH_take (i := 13) (oi := ⟨some 167, .binOp .eql 31 (.tmp 165) (.tmp 166) 31, _, _, _, _⟩) (v := .bool z2) rfl (by kernel_rfl) (by kernel_rfl) (by kernel_rfl) (fun _ _ _ h => h) (Or.inl ⟨by rfl, fun w _ => by go_simp⟩) hHeld ?_
              simp only [Act.put, List.setIfInBounds_toArray, List.set_cons_zero, List.set_cons_succ]
              refine wpAnyH_ready (rs := [10]) (by kernel_rfl) (by simp) (AllReadyH.cons (o := ⟨some 164, .call { callee := .value (.func 30), args := #[.tmp 159, .tmp 160, .tmp 161, .tmp 162, .tmp 163], argTypes := #[3, 3, 31, 31, 22] }, _, _, _, _⟩) rfl (fun K' hK => ?_) (AllReadyH.nil))
              go_simp
              refine (H26.out _ p2 lr).mono ?_
              rintro e ww ⟨rfl, h11⟩
              replace bx := bx.keep h11; replace xr := xr.keep h11; replace xo := xo.keep h11; replace p2 := p2.keep h11; replace lr := Later.trans_ lr h11
              refine hK.out _ _ ⟨blk_at bx, blk_at xr, blk_at xo⟩ (fun hHeld => ?_)
              clear hK K'
              try simp only [Act.put, List.setIfInBounds_toArray, List.set_cons_zero, List.set_cons_succ]
              refine wpAnyH_take (i := 14) (oi := ⟨some 168, .binOp .eql 4 (.tmp 164) (.tmp 167) 4, _, _, _, _⟩) (v := .bool true) rfl (by kernel_rfl) (by kernel_rfl) (by kernel_rfl) (fun _ _ _ h => h) (Or.inl ⟨by rfl, fun w _ => by go_simp⟩) hHeld ?_
              simp only [Act.put, List.setIfInBounds_toArray, List.set_cons_zero, List.set_cons_succ]
              refine wpAnyH_take (i := 15) (oi := ⟨some 169, .pick (.tmp 158) (.const (.bool true)) (.tmp 168), _, _, _, _⟩) (v := .bool true) rfl (by kernel_rfl) (by kernel_rfl) (by kernel_rfl) (fun _ _ _ h => h) (Or.inl ⟨by rfl, fun w _ => by go_simp⟩) hHeld ?_
              simp only [Act.put, List.setIfInBounds_toArray, List.set_cons_zero, List.set_cons_succ]
              refine wpAnyH_take (i := 16) (oi := ⟨some 170, .pick (.tmp 155) (.tmp 169) (.const (.bool false)), _, _, _, none⟩) (v := .bool true) rfl (by kernel_rfl) (by kernel_rfl) (by kernel_rfl) (fun _ _ _ h => h) (Or.inl ⟨by rfl, fun w _ => by go_simp⟩) hHeld ?_
              simp only [Act.put, List.setIfInBounds_toArray, List.set_cons_zero, List.set_cons_succ]
              refine wpAnyH_take (i := 17) (oi := ⟨some 10, .assign (.tmp 170), _, _, _, none⟩) (v := .bool true) rfl (by kernel_rfl) (by kernel_rfl) (by kernel_rfl) (fun _ _ _ h => h) (Or.inl ⟨by rfl, fun _ _ => rfl⟩) hHeld ?_
              simp only [Act.put, List.setIfInBounds_toArray, List.set_cons_zero, List.set_cons_succ]
              refine wpAnyH_done (by kernel_rfl) ?_ _
              clear hHeld
              go_wp2
              go_ret
              exact ⟨rfl, lr⟩
            · have hne : ((q : Int) == (k : Int)) = false := beq_eq_false_iff_ne.2 (by omega)
              have H26 := Lib.hid (HN2.out hq1)
              have hne0 : ((q : Int) == 0) = false := beq_eq_false_iff_ne.2 (by omega)
              clear HN1 HN2 HNQ
              go_wp2
              refine wp_region_held_drew (S := fun w' => w'.rangeAt B0 0 (U x) ∧ w'.rangeAt Br 0 (U rt) ∧ w'.rangeAt Bo 0 (U od)) (by kernel_rfl) ⟨blk_at bx.drew, blk_at xr.drew, blk_at xo.drew⟩ (fun hHeld => ?_)
              refine wpAnyH_take (i := 0) (oi := ⟨some 134, .move (.tmp 25), _, _, _, none⟩) (v := .int .i64 q) rfl (by kernel_rfl) (by kernel_rfl) (by kernel_rfl) (fun _ _ _ h => h) (Or.inl ⟨by rfl, fun _ _ => rfl⟩) hHeld ?_
              simp only [Act.put, List.setIfInBounds_toArray, List.set_cons_zero, List.set_cons_succ]
              refine wpAnyH_take (i := 1) (oi := ⟨some 135, .move (.tmp 13), _, _, _, none⟩) (v := .int .i64 q) rfl (by kernel_rfl) (by kernel_rfl) (by kernel_rfl) (fun _ _ _ h => h) (Or.inl ⟨by rfl, fun _ _ => rfl⟩) hHeld ?_
              simp only [Act.put, List.setIfInBounds_toArray, List.set_cons_zero, List.set_cons_succ]
              refine wpAnyH_take (i := 2) (oi := ⟨some 136, .binOp .neq 3 (.tmp 134) (.tmp 135) 3, _, _, _, none⟩) (v := .bool false) rfl (by kernel_rfl) (by kernel_rfl) (by kernel_rfl) (fun _ _ _ h => h) (Or.inl ⟨by rfl, fun w _ => by go_simp⟩) hHeld ?_
              simp only [Act.put, List.setIfInBounds_toArray, List.set_cons_zero, List.set_cons_succ]
              refine wpAnyH_take (i := 3) (oi := ⟨some 137, .move (.tmp 136), _, _, _, none⟩) (v := .bool false) rfl (by kernel_rfl) (by kernel_rfl) (by kernel_rfl) (fun _ _ _ h => h) (Or.inl ⟨by rfl, fun _ _ => rfl⟩) hHeld ?_
              simp only [Act.put, List.setIfInBounds_toArray, List.set_cons_zero, List.set_cons_succ]
              refine wpAnyH_take (i := 4) (oi := ⟨some 138, .move (.tmp 13), _, _, _, _⟩) (v := .int .i64 q) rfl (by kernel_rfl) (by kernel_rfl) (by kernel_rfl) (fun _ _ _ h => h) (Or.inl ⟨by rfl, fun _ _ => rfl⟩) hHeld ?_
              simp only [Act.put, List.setIfInBounds_toArray, List.set_cons_zero, List.set_cons_succ]
              refine wpAnyH_take (i := 5) (oi := ⟨some 139, .move (.tmp 11), _, _, _, _⟩) (v := .int .i64 k) rfl (by kernel_rfl) (by kernel_rfl) (by kernel_rfl) (fun _ _ _ h => h) (Or.inl ⟨by rfl, fun _ _ => rfl⟩) hHeld ?_
              simp only [Act.put, List.setIfInBounds_toArray, List.set_cons_zero, List.set_cons_succ]
              refine wpAnyH_take (i := 6) (oi := ⟨some 140, .binOp .eql 3 (.tmp 138) (.tmp 139) 3, _, _, _, _⟩) (v := .bool false) rfl (by kernel_rfl) (by kernel_rfl) (by kernel_rfl) (fun _ _ _ h => h) (Or.inl ⟨by rfl, fun w _ => by go_simp⟩) hHeld ?_
              simp only [Act.put, List.setIfInBounds_toArray, List.set_cons_zero, List.set_cons_succ]
              refine wpAnyH_take (i := 7) (oi := ⟨some 141, .pick (.tmp 137) (.const (.bool true)) (.tmp 140), _, _, _, none⟩) (v := .bool false) rfl (by kernel_rfl) (by kernel_rfl) (by kernel_rfl) (fun _ _ _ h => h) (Or.inl ⟨by rfl, fun w _ => by go_simp⟩) hHeld ?_
              simp only [Act.put, List.setIfInBounds_toArray, List.set_cons_zero, List.set_cons_succ]
              refine wpAnyH_take (i := 8) (oi := ⟨some 142, .move (.tmp 141), _, _, _, none⟩) (v := .bool false) rfl (by kernel_rfl) (by kernel_rfl) (by kernel_rfl) (fun _ _ _ h => h) (Or.inl ⟨by rfl, fun _ _ => rfl⟩) hHeld ?_
              simp only [Act.put, List.setIfInBounds_toArray, List.set_cons_zero, List.set_cons_succ]
              refine wpAnyH_take (i := 9) (oi := ⟨some 143, .move (.tmp 13), _, _, _, _⟩) (v := undef) rfl (by kernel_rfl) (by kernel_rfl) (by kernel_rfl) (fun _ _ _ h => h) (Or.inr ⟨by rfl, rfl⟩) hHeld ?_
              simp only [Act.put, List.setIfInBounds_toArray, List.set_cons_zero, List.set_cons_succ]
              refine wpAnyH_take (i := 10) (oi := ⟨some 144, .move (.tmp 11), _, _, _, _⟩) (v := undef) rfl (by kernel_rfl) (by kernel_rfl) (by kernel_rfl) (fun _ _ _ h => h) (Or.inr ⟨by rfl, rfl⟩) hHeld ?_
              simp only [Act.put, List.setIfInBounds_toArray, List.set_cons_zero, List.set_cons_succ]
              refine wpAnyH_take (i := 11) (oi := ⟨some 145, .load 31 (.tmp 9), _, _, _, _⟩) (v := undef) rfl (by kernel_rfl) (by kernel_rfl) (by kernel_rfl) (fun _ _ _ h => h) (Or.inr ⟨by rfl, rfl⟩) hHeld ?_
              simp only [Act.put, List.setIfInBounds_toArray, List.set_cons_zero, List.set_cons_succ]
              refine wpAnyH_take (i := 12) (oi := ⟨some 146, .load 31 (.tmp 14), _, _, _, _⟩) (v := undef) rfl (by kernel_rfl) (by kernel_rfl) (by kernel_rfl) (fun _ _ _ h => h) (Or.inr ⟨by rfl, rfl⟩) hHeld ?_
              simp only [Act.put, List.setIfInBounds_toArray, List.set_cons_zero, List.set_cons_succ]
              refine wpAnyH_take (i := 13) (oi := ⟨some 147, .move (.tmp 18), _, _, _, _⟩) (v := undef) rfl (by kernel_rfl) (by kernel_rfl) (by kernel_rfl) (fun _ _ _ h => h) (Or.inr ⟨by rfl, rfl⟩) hHeld ?_
              simp only [Act.put, List.setIfInBounds_toArray, List.set_cons_zero, List.set_cons_succ]
              refine wpAnyH_take (i := 14) (oi := ⟨some 148, .call { callee := .value (.func 30), args := #[.tmp 143, .tmp 144, .tmp 145, .tmp 146, .tmp 147], argTypes := #[3, 3, 31, 31, 22] }, _, _, _, _⟩) (v := undef) rfl (by kernel_rfl) (by kernel_rfl) (by kernel_rfl) (fun _ _ _ h => h) (Or.inr ⟨by rfl, rfl⟩) hHeld ?_
              simp only [Act.put, List.setIfInBounds_toArray, List.set_cons_zero, List.set_cons_succ]
              refine wpAnyH_take (i := 15) (oi := ⟨some 149, .load 31 (.tmp 9), _, _, _, _⟩) (v := undef) rfl (by kernel_rfl) (by kernel_rfl) (by kernel_rfl) (fun _ _ _ h => h) (Or.inr ⟨by rfl, rfl⟩) hHeld ?_
              simp only [Act.put, List.setIfInBounds_toArray, List.set_cons_zero, List.set_cons_succ]
              refine wpAnyH_take (i := 16) (oi := ⟨some 150, .load 31 (.tmp 15), _, _, _, _⟩) (v := undef) rfl (by kernel_rfl) (by kernel_rfl) (by kernel_rfl) (fun _ _ _ h => h) (Or.inr ⟨by rfl, rfl⟩) hHeld ?_
              simp only [Act.put, List.setIfInBounds_toArray, List.set_cons_zero, List.set_cons_succ]
              refine wpAnyH_take (i := 17) (oi := ⟨some 151, .binOp .eql 31 (.tmp 149) (.tmp 150) 31, _, _, _, _⟩) (v := undef) rfl (by kernel_rfl) (by kernel_rfl) (by kernel_rfl) (fun _ _ _ h => h) (Or.inr ⟨by rfl, rfl⟩) hHeld ?_
              simp only [Act.put, List.setIfInBounds_toArray, List.set_cons_zero, List.set_cons_succ]
              refine wpAnyH_take (i := 18) (oi := ⟨some 152, .binOp .neq 4 (.tmp 148) (.tmp 151) 4, _, _, _, _⟩) (v := undef) rfl (by kernel_rfl) (by kernel_rfl) (by kernel_rfl) (fun _ _ _ h => h) (Or.inr ⟨by rfl, rfl⟩) hHeld ?_
              simp only [Act.put, List.setIfInBounds_toArray, List.set_cons_zero, List.set_cons_succ]
              refine wpAnyH_take (i := 19) (oi := ⟨some 153, .pick (.tmp 142) (.tmp 152) (.const (.bool false)), _, _, _, none⟩) (v := .bool false) rfl (by kernel_rfl) (by kernel_rfl) (by kernel_rfl) (fun _ _ _ h => h) (Or.inl ⟨by rfl, fun w _ => by go_simp⟩) hHeld ?_
              simp only [Act.put, List.setIfInBounds_toArray, List.set_cons_zero, List.set_cons_succ]
              refine wpAnyH_done (by kernel_rfl) ?_ _
              clear hHeld
              replace bx := bx.drew; replace xr := xr.drew; replace xo := xo.drew; replace p2 := p2.drew; replace lr := lr.drew
              go_wp2
              refine wp_region_held_drew (S := fun w' => w'.rangeAt B0 0 (U x) ∧ w'.rangeAt Br 0 (U rt) ∧ w'.rangeAt Bo 0 (U od)) (by kernel_rfl) ⟨blk_at bx.drew, blk_at xr.drew, blk_at xo.drew⟩ (fun hHeld => ?_)
              refine wpAnyH_ready (rs := [0]) (by kernel_rfl) (by simp) (AllReadyH.cons (o := ⟨some 154, .call { callee := .value (.func 9), args := #[], argTypes := #[] }, _, _, _, none⟩) rfl (fun K' hK => ?_) (AllReadyH.nil))
              go_simp
              replace bx := bx.drew; replace xr := xr.drew; replace xo := xo.drew; replace p2 := p2.drew; replace lr := lr.drew
              refine (HSN.out _ lr).mono ?_
              rintro e wv ⟨rfl, h10⟩
              replace bx := bx.keep h10; replace xr := xr.keep h10; replace xo := xo.keep h10; replace p2 := p2.keep h10; replace lr := Later.trans_ lr h10
              refine hK.out _ _ ⟨blk_at bx, blk_at xr, blk_at xo⟩ (fun hHeld => ?_)
              clear hK K'
              try simp only [Act.put, List.setIfInBounds_toArray, List.set_cons_zero, List.set_cons_succ]
              refine wpAnyH_take (i := 1) (oi := ⟨some 155, .move (.tmp 154), _, _, _, none⟩) (v := .bool true) rfl (by kernel_rfl) (by kernel_rfl) (by kernel_rfl) (fun _ _ _ h => h) (Or.inl ⟨by rfl, fun _ _ => rfl⟩) hHeld ?_
              simp only [Act.put, List.setIfInBounds_toArray, List.set_cons_zero, List.set_cons_succ]
              refine wpAnyH_take (i := 2) (oi := ⟨some 156, .move (.tmp 13), _, _, _, _⟩) (v := .int .i64 q) rfl (by kernel_rfl) (by kernel_rfl) (by kernel_rfl) (fun _ _ _ h => h) (Or.inl ⟨by rfl, fun _ _ => rfl⟩) hHeld ?_
              simp only [Act.put, List.setIfInBounds_toArray, List.set_cons_zero, List.set_cons_succ]
              refine wpAnyH_take (i := 3) (oi := ⟨some 157, .binOp .eql 3 (.tmp 156) (.const (.int .i64 0)) 3, _, _, _, _⟩) (v := .bool false) rfl (by kernel_rfl) (by kernel_rfl) (by kernel_rfl) (fun _ _ _ h => h) (Or.inl ⟨by rfl, fun w _ => by go_simp⟩) hHeld ?_
              simp only [Act.put, List.setIfInBounds_toArray, List.set_cons_zero, List.set_cons_succ]
              refine wpAnyH_take (i := 4) (oi := ⟨some 158, .move (.tmp 157), _, _, _, _⟩) (v := .bool false) rfl (by kernel_rfl) (by kernel_rfl) (by kernel_rfl) (fun _ _ _ h => h) (Or.inl ⟨by rfl, fun _ _ => rfl⟩) hHeld ?_
              simp only [Act.put, List.setIfInBounds_toArray, List.set_cons_zero, List.set_cons_succ]
              refine wpAnyH_take (i := 5) (oi := ⟨some 159, .move (.tmp 13), _, _, _, _⟩) (v := .int .i64 q) rfl (by kernel_rfl) (by kernel_rfl) (by kernel_rfl) (fun _ _ _ h => h) (Or.inl ⟨by rfl, fun _ _ => rfl⟩) hHeld ?_
              simp only [Act.put, List.setIfInBounds_toArray, List.set_cons_zero, List.set_cons_succ]
              refine wpAnyH_take (i := 6) (oi := ⟨some 160, .move (.tmp 11), _, _, _, _⟩) (v := .int .i64 k) rfl (by kernel_rfl) (by kernel_rfl) (by kernel_rfl) (fun _ _ _ h => h) (Or.inl ⟨by rfl, fun _ _ => rfl⟩) hHeld ?_
              simp only [Act.put, List.setIfInBounds_toArray, List.set_cons_zero, List.set_cons_succ]
              refine wpAnyH_take (i := 7) (oi := ⟨some 161, .load 31 (.tmp 15), _, _, _, _⟩) (v := .agg (U od).toArray) rfl (by kernel_rfl) (by kernel_rfl) (by kernel_rfl) (fun _ _ _ h => h) (yieldsIf_load_mid (by rfl) _ _ rfl _ _ rfl _ _ (fun w h => h.2.2) Tryd.underlying31 rfl (dig_sz HDO.out.1)) hHeld ?_
              simp only [Act.put, List.setIfInBounds_toArray, List.set_cons_zero, List.set_cons_succ]
              refine wpAnyH_take (i := 8) (oi := ⟨some 162, .load 31 (.tmp 9), _, _, _, _⟩) (v := .agg (U x).toArray) rfl (by kernel_rfl) (by kernel_rfl) (by kernel_rfl) (fun _ _ _ h => h) (yieldsIf_load_mid (by rfl) _ _ rfl _ _ rfl _ _ (fun w h => h.1) Tryd.underlying31 rfl (dig_sz HDX.out.1)) hHeld ?_
              simp only [Act.put, List.setIfInBounds_toArray, List.set_cons_zero, List.set_cons_succ]
              refine wpAnyH_take (i := 9) (oi := ⟨some 163, .move (.tmp 18), _, _, _, _⟩) (v := .slice A2 J2.length c2) rfl (by kernel_rfl) (by kernel_rfl) (by kernel_rfl) (fun _ _ _ h => h) (Or.inl ⟨by rfl, fun _ _ => rfl⟩) hHeld ?_
              simp only [Act.put, List.setIfInBounds_toArray, List.set_cons_zero, List.set_cons_succ]
              refine wpAnyH_take (i := 11) (oi := ⟨some 165, .load 31 (.tmp 9), _, _, _, _⟩) (v := .agg (U x).toArray) rfl (by kernel_rfl) (by kernel_rfl) (by kernel_rfl) (fun _ _ _ h => h) (yieldsIf_load_mid (by rfl) _ _ rfl _ _ rfl _ _ (fun w h => h.1) Tryd.underlying31 rfl (dig_sz HDX.out.1)) hHeld ?_
              simp only [Act.put, List.setIfInBounds_toArray, List.set_cons_zero, List.set_cons_succ]
              refine wpAnyH_take (i := 12) (oi := ⟨some 166, .load 31 (.tmp 14), _, _, _, _⟩) (v := .agg (U rt).toArray) rfl (by kernel_rfl) (by kernel_rfl) (by kernel_rfl) (fun _ _ _ h => h) (yieldsIf_load_mid (by rfl) _ _ rfl _ _ rfl _ _ (fun w h => h.2.1) Tryd.underlying31 rfl (dig_sz HDR.out.1)) hHeld ?_
              simp only [Act.put, List.setIfInBounds_toArray, List.set_cons_zero, List.set_cons_succ]
              refine wpAnyH_take (i := 13) (oi := ⟨some 167, .binOp .eql 31 (.tmp 165) (.tmp 166) 31, _, _, _, _⟩) (v := .bool z2) rfl (by kernel_rfl) (by kernel_rfl) (by kernel_rfl) (fun _ _ _ h => h) (Or.inl ⟨by rfl, fun w _ => by go_simp⟩) hHeld ?_
              simp only [Act.put, List.setIfInBounds_toArray, List.set_cons_zero, List.set_cons_succ]
              refine wpAnyH_ready (rs := [10]) (by kernel_rfl) (by simp) (AllReadyH.cons (o := ⟨some 164, .call { callee := .value (.func 30), args := #[.tmp 159, .tmp 160, .tmp 161, .tmp 162, .tmp 163], argTypes := #[3, 3, 31, 31, 22] }, _, _, _, _⟩) rfl (fun K' hK => ?_) (AllReadyH.nil))
              go_simp
              refine (H26.out _ p2 lr).mono ?_
              rintro e ww ⟨rfl, h11⟩
              replace bx := bx.keep h11; replace xr := xr.keep h11; replace xo := xo.keep h11; replace p2 := p2.keep h11; replace lr := Later.trans_ lr h11
              refine hK.out _ _ ⟨blk_at bx, blk_at xr, blk_at xo⟩ (fun hHeld => ?_)
              clear hK K'
              try simp only [Act.put, List.setIfInBounds_toArray, List.set_cons_zero, List.set_cons_succ]
              refine wpAnyH_take (i := 14) (oi := ⟨some 168, .binOp .eql 4 (.tmp 164) (.tmp 167) 4, _, _, _, _⟩) (v := .bool true) rfl (by kernel_rfl) (by kernel_rfl) (by kernel_rfl) (fun _ _ _ h => h) (Or.inl ⟨by rfl, fun w _ => by go_simp⟩) hHeld ?_
              simp only [Act.put, List.setIfInBounds_toArray, List.set_cons_zero, List.set_cons_succ]
              refine wpAnyH_take (i := 15) (oi := ⟨some 169, .pick (.tmp 158) (.const (.bool true)) (.tmp 168), _, _, _, _⟩) (v := .bool true) rfl (by kernel_rfl) (by kernel_rfl) (by kernel_rfl) (fun _ _ _ h => h) (Or.inl ⟨by rfl, fun w _ => by go_simp⟩) hHeld ?_
              simp only [Act.put, List.setIfInBounds_toArray, List.set_cons_zero, List.set_cons_succ]
              refine wpAnyH_take (i := 16) (oi := ⟨some 170, .pick (.tmp 155) (.tmp 169) (.const (.bool false)), _, _, _, none⟩) (v := .bool true) rfl (by kernel_rfl) (by kernel_rfl) (by kernel_rfl) (fun _ _ _ h => h) (Or.inl ⟨by rfl, fun w _ => by go_simp⟩) hHeld ?_
              simp only [Act.put, List.setIfInBounds_toArray, List.set_cons_zero, List.set_cons_succ]
              refine wpAnyH_take (i := 17) (oi := ⟨some 10, .assign (.tmp 170), _, _, _, none⟩) (v := .bool true) rfl (by kernel_rfl) (by kernel_rfl) (by kernel_rfl) (fun _ _ _ h => h) (Or.inl ⟨by rfl, fun _ _ => rfl⟩) hHeld ?_
              simp only [Act.put, List.setIfInBounds_toArray, List.set_cons_zero, List.set_cons_succ]
              refine wpAnyH_done (by kernel_rfl) ?_ _
              clear hHeld
              go_wp2
              go_ret
              exact ⟨rfl, lr⟩
          · have hne : ((q : Int) != (f : Int)) = true := bne_iff_ne.2 (by omega)
            have hne2 : ((q : Int) == (f : Int)) = false := beq_eq_false_iff_ne.2 (by omega)
            have H24 := Lib.hid (HN1.out ((HNQ.out hqe).imp id .inr))
            by_cases hf0 : f = 0
            · subst hf0
              clear HN1 HN2 HNQ
              go_wp2
              refine wp_region_held_drew (S := fun w' => w'.rangeAt B0 0 (U x) ∧ w'.rangeAt Br 0 (U rt) ∧ w'.rangeAt Bo 0 (U od)) (by kernel_rfl) ⟨blk_at bx.drew, blk_at xr.drew, blk_at xo.drew⟩ (fun hHeld => ?_)
              refine wpAnyH_take (i := 0) (oi := ⟨some 134, .move (.tmp 25), _, _, _, none⟩) (v := .int .i64 q) rfl (by kernel_rfl) (by kernel_rfl) (by kernel_rfl) (fun _ _ _ h => h) (Or.inl ⟨by rfl, fun _ _ => rfl⟩) hHeld ?_
              simp only [Act.put, List.setIfInBounds_toArray, List.set_cons_zero, List.set_cons_succ]
              refine wpAnyH_take (i := 1) (oi := ⟨some 135, .move (.tmp 13), _, _, _, none⟩) (v := .int .i64 0) rfl (by kernel_rfl) (by kernel_rfl) (by kernel_rfl) (fun _ _ _ h => h) (Or.inl ⟨by rfl, fun _ _ => rfl⟩) hHeld ?_
              simp only [Act.put, List.setIfInBounds_toArray, List.set_cons_zero, List.set_cons_succ]
              refine wpAnyH_take (i := 2) (oi := ⟨some 136, .binOp .neq 3 (.tmp 134) (.tmp 135) 3, _, _, _, none⟩) (v := .bool true) rfl (by kernel_rfl) (by kernel_rfl) (by kernel_rfl) (fun _ _ _ h => h) (Or.inl ⟨by rfl, fun w _ => by go_simp⟩) hHeld ?_
              simp only [Act.put, List.setIfInBounds_toArray, List.set_cons_zero, List.set_cons_succ]
              refine wpAnyH_take (i := 3) (oi := ⟨some 137, .move (.tmp 136), _, _, _, none⟩) (v := .bool true) rfl (by kernel_rfl) (by kernel_rfl) (by kernel_rfl) (fun _ _ _ h => h) (Or.inl ⟨by rfl, fun _ _ => rfl⟩) hHeld ?_
              simp only [Act.put, List.setIfInBounds_toArray, List.set_cons_zero, List.set_cons_succ]
              refine wpAnyH_take (i := 4) (oi := ⟨some 138, .move (.tmp 13), _, _, _, _⟩) (v := undef) rfl (by kernel_rfl) (by kernel_rfl) (by kernel_rfl) (fun _ _ _ h => h) (Or.inr ⟨by rfl, rfl⟩) hHeld ?_
              simp only [Act.put, List.setIfInBounds_toArray, List.set_cons_zero, List.set_cons_succ]
              refine wpAnyH_take (i := 5) (oi := ⟨some 139, .move (.tmp 11), _, _, _, _⟩) (v := undef) rfl (by kernel_rfl) (by kernel_rfl) (by kernel_rfl) (fun _ _ _ h => h) (Or.inr ⟨by rfl, rfl⟩) hHeld ?_
              simp only [Act.put, List.setIfInBounds_toArray, List.set_cons_zero, List.set_cons_succ]
              refine wpAnyH_take (i := 6) (oi := ⟨some 140, .binOp .eql 3 (.tmp 138) (.tmp 139) 3, _, _, _, _⟩) (v := undef) rfl (by kernel_rfl) (by kernel_rfl) (by kernel_rfl) (fun _ _ _ h => h) (Or.inr ⟨by rfl, rfl⟩) hHeld ?_
              simp only [Act.put, List.setIfInBounds_toArray, List.set_cons_zero, List.set_cons_succ]
              refine wpAnyH_take (i := 7) (oi := ⟨some 141, .pick (.tmp 137) (.const (.bool true)) (.tmp 140), _, _, _, none⟩) (v := .bool true) rfl (by kernel_rfl) (by kernel_rfl) (by kernel_rfl) (fun _ _ _ h => h) (Or.inl ⟨by rfl, fun w _ => by go_simp⟩) hHeld ?_
              simp only [Act.put, List.setIfInBounds_toArray, List.set_cons_zero, List.set_cons_succ]
              refine wpAnyH_take (i := 8) (oi := ⟨some 142, .move (.tmp 141), _, _, _, none⟩) (v := .bool true) rfl (by kernel_rfl) (by kernel_rfl) (by kernel_rfl) (fun _ _ _ h => h) (Or.inl ⟨by rfl, fun _ _ => rfl⟩) hHeld ?_
              simp only [Act.put, List.setIfInBounds_toArray, List.set_cons_zero, List.set_cons_succ]
              refine wpAnyH_take (i := 9) (oi := ⟨some 143, .move (.tmp 13), _, _, _, _⟩) (v := .int .i64 0) rfl (by kernel_rfl) (by kernel_rfl) (by kernel_rfl) (fun _ _ _ h => h) (Or.inl ⟨by rfl, fun _ _ => rfl⟩) hHeld ?_
              simp only [Act.put, List.setIfInBounds_toArray, List.set_cons_zero, List.set_cons_succ]
              refine wpAnyH_take (i := 10) (oi := ⟨some 144, .move (.tmp 11), _, _, _, _⟩) (v := .int .i64 k) rfl (by kernel_rfl) (by kernel_rfl) (by kernel_rfl) (fun _ _ _ h => h) (Or.inl ⟨by rfl, fun _ _ => rfl⟩) hHeld ?_
              simp only [Act.put, List.setIfInBounds_toArray, List.set_cons_zero, List.set_cons_succ]
              refine wpAnyH_take (i := 11) (oi := ⟨some 145, .load 31 (.tmp 9), _, _, _, _⟩) (v := .agg (U x).toArray) rfl (by kernel_rfl) (by kernel_rfl) (by kernel_rfl) (fun _ _ _ h => h) (yieldsIf_load_mid (by rfl) _ _ rfl _ _ rfl _ _ (fun w h => h.1) Tryd.underlying31 rfl (dig_sz HDX.out.1)) hHeld ?_
              simp only [Act.put, List.setIfInBounds_toArray, List.set_cons_zero, List.set_cons_succ]
              refine wpAnyH_take (i := 12) (oi := ⟨some 146, .load 31 (.tmp 14), _, _, _, _⟩) (v := .agg (U rt).toArray) rfl (by kernel_rfl) (by kernel_rfl) (by kernel_rfl) (fun _ _ _ h => h) (yieldsIf_load_mid (by rfl) _ _ rfl _ _ rfl _ _ (fun w h => h.2.1) Tryd.underlying31 rfl (dig_sz HDR.out.1)) hHeld ?_
              simp only [Act.put, List.setIfInBounds_toArray, List.set_cons_zero, List.set_cons_succ]
              refine wpAnyH_take (i := 13) (oi := ⟨some 147, .move (.tmp 18), _, _, _, _⟩) (v := .slice A2 J2.length c2) rfl (by kernel_rfl) (by kernel_rfl) (by kernel_rfl) (fun _ _ _ h => h) (Or.inl ⟨by rfl, fun _ _ => rfl⟩) hHeld ?_
              simp only [Act.put, List.setIfInBounds_toArray, List.set_cons_zero, List.set_cons_succ]
              refine wpAnyH_take (i := 15) (oi := ⟨some 149, .load 31 (.tmp 9), _, _, _, _⟩) (v := .agg (U x).toArray) rfl (by kernel_rfl) (by kernel_rfl) (by kernel_rfl) (fun _ _ _ h => h) (yieldsIf_load_mid (by rfl) _ _ rfl _ _ rfl _ _ (fun w h => h.1) Tryd.underlying31 rfl (dig_sz HDX.out.1)) hHeld ?_
              simp only [Act.put, List.setIfInBounds_toArray, List.set_cons_zero, List.set_cons_succ]
              refine wpAnyH_take (i := 16) (oi := ⟨some 150, .load 31 (.tmp 15), _, _, _, _⟩) (v := .agg (U od).toArray) rfl (by kernel_rfl) (by kernel_rfl) (by kernel_rfl) (fun _ _ _ h => h) (yieldsIf_load_mid (by rfl) _ _ rfl _ _ rfl _ _ (fun w h => h.2.2) Tryd.underlying31 rfl (dig_sz HDO.out.1)) hHeld ?_
              simp only [Act.put, List.setIfInBounds_toArray, List.set_cons_zero, List.set_cons_succ]
              refine wpAnyH_take (i := 17) (oi := ⟨some 151, .binOp .eql 31 (.tmp 149) (.tmp 150) 31, _, _, _, _⟩) (v := .bool z1) rfl (by kernel_rfl) (by kernel_rfl) (by kernel_rfl) (fun _ _ _ h => h) (Or.inl ⟨by rfl, fun w _ => by go_simp⟩) hHeld ?_
              simp only [Act.put, List.setIfInBounds_toArray, List.set_cons_zero, List.set_cons_succ]
              refine wpAnyH_ready (rs := [14]) (by kernel_rfl) (by simp) (AllReadyH.cons (o := ⟨some 148, .call { callee := .value (.func 30), args := #[.tmp 143, .tmp 144, .tmp 145, .tmp 146, .tmp 147], argTypes := #[3, 3, 31, 31, 22] }, _, _, _, _⟩) rfl (fun K' hK => ?_) (AllReadyH.nil))
              go_simp
              replace bx := bx.drew; replace xr := xr.drew; replace xo := xo.drew; replace p2 := p2.drew; replace lr := lr.drew
              refine (H24.out _ p2 lr).mono ?_
              rintro e wu ⟨rfl, h9⟩
              replace bx := bx.keep h9; replace xr := xr.keep h9; replace xo := xo.keep h9; replace p2 := p2.keep h9; replace lr := Later.trans_ lr h9
              refine hK.out _ _ ⟨blk_at bx, blk_at xr, blk_at xo⟩ (fun hHeld => ?_)
              clear hK K'
              try simp only [Act.put, List.setIfInBounds_toArray, List.set_cons_zero, List.set_cons_succ]
              refine wpAnyH_take (i := 18) (oi := ⟨some 152, .binOp .neq 4 (.tmp 148) (.tmp 151) 4, _, _, _, _⟩) (v := .bool false) rfl (by kernel_rfl) (by kernel_rfl) (by kernel_rfl) (fun _ _ _ h => h) (Or.inl ⟨by rfl, fun w _ => by go_simp⟩) hHeld ?_
              simp only [Act.put, List.setIfInBounds_toArray, List.set_cons_zero, List.set_cons_succ]
              refine wpAnyH_take (i := 19) (oi := ⟨some 153, .pick (.tmp 142) (.tmp 152) (.const (.bool false)), _, _, _, none⟩) (v := .bool false) rfl (by kernel_rfl) (by kernel_rfl) (by kernel_rfl) (fun _ _ _ h => h) (Or.inl ⟨by rfl, fun w _ => by go_simp⟩) hHeld ?_
              simp only [Act.put, List.setIfInBounds_toArray, List.set_cons_zero, List.set_cons_succ]
              refine wpAnyH_done (by kernel_rfl) ?_ _
              clear hHeld
              go_wp2
              refine wp_region_held_drew (S := fun w' => w'.rangeAt B0 0 (U x) ∧ w'.rangeAt Br 0 (U rt) ∧ w'.rangeAt Bo 0 (U od)) (by kernel_rfl) ⟨blk_at bx.drew, blk_at xr.drew, blk_at xo.drew⟩ (fun hHeld => ?_)
              refine wpAnyH_ready (rs := [0]) (by kernel_rfl) (by simp) (AllReadyH.cons (o := ⟨some 154, .call { callee := .value (.func 9), args := #[], argTypes := #[] }, _, _, _, none⟩) rfl (fun K' hK => ?_) (AllReadyH.nil))
              go_simp
              replace bx := bx.drew; replace xr := xr.drew; replace xo := xo.drew; replace p2 := p2.drew; replace lr := lr.drew
              refine (HSN.out _ lr).mono ?_
              rintro e wv ⟨rfl, h10⟩
              replace bx := bx.keep h10; replace xr := xr.keep h10; replace xo := xo.keep h10; replace p2 := p2.keep h10; replace lr := Later.trans_ lr h10
              refine hK.out _ _ ⟨blk_at bx, blk_at xr, blk_at xo⟩ (fun hHeld => ?_)
              clear hK K'
              try simp only [Act.put, List.setIfInBounds_toArray, List.set_cons_zero, List.set_cons_succ]
              refine wpAnyH_take (i := 1) (oi := ⟨some 155, .move (.tmp 154), _, _, _, none⟩) (v := .bool true) rfl (by kernel_rfl) (by kernel_rfl) (by kernel_rfl) (fun _ _ _ h => h) (Or.inl ⟨by rfl, fun _ _ => rfl⟩) hHeld ?_
              simp only [Act.put, List.setIfInBounds_toArray, List.set_cons_zero, List.set_cons_succ]
              refine wpAnyH_take (i := 2) (oi := ⟨some 156, .move (.tmp 13), _, _, _, _⟩) (v := .int .i64 0) rfl (by kernel_rfl) (by kernel_rfl) (by kernel_rfl) (fun _ _ _ h => h) (Or.inl ⟨by rfl, fun _ _ => rfl⟩) hHeld ?_
              simp only [Act.put, List.setIfInBounds_toArray, List.set_cons_zero, List.set_cons_succ]
              refine wpAnyH_take (i := 3) (oi := ⟨some 157, .binOp .eql 3 (.tmp 156) (.const (.int .i64 0)) 3, _, _, _, _⟩) (v := .bool true) rfl (by kernel_rfl) (by kernel_rfl) (by kernel_rfl) (fun _ _ _ h => h) (Or.inl ⟨by rfl, fun w _ => by go_simp⟩) hHeld ?_
              simp only [Act.put, List.setIfInBounds_toArray, List.set_cons_zero, List.set_cons_succ]
              refine wpAnyH_take (i := 4) (oi := ⟨some 158, .move (.tmp 157), _, _, _, _⟩) (v := .bool true) rfl (by kernel_rfl) (by kernel_rfl) (by kernel_rfl) (fun _ _ _ h => h) (Or.inl ⟨by rfl, fun _ _ => rfl⟩) hHeld ?_
              simp only [Act.put, List.setIfInBounds_toArray, List.set_cons_zero, List.set_cons_succ]
              refine wpAnyH_take (i := 5) (oi := ⟨some 159, .move (.tmp 13), _, _, _, _⟩) (v := undef) rfl (by kernel_rfl) (by kernel_rfl) (by kernel_rfl) (fun _ _ _ h => h) (Or.inr ⟨by rfl, rfl⟩) hHeld ?_
              simp only [Act.put, List.setIfInBounds_toArray, List.set_cons_zero, List.set_cons_succ]
              refine wpAnyH_take (i := 6) (oi := ⟨some 160, .move (.tmp 11), _, _, _, _⟩) (v := undef) rfl (by kernel_rfl) (by kernel_rfl) (by kernel_rfl) (fun _ _ _ h => h) (Or.inr ⟨by rfl, rfl⟩) hHeld ?_
              simp only [Act.put, List.setIfInBounds_toArray, List.set_cons_zero, List.set_cons_succ]
              refine wpAnyH_take (i := 7) (oi := ⟨some 161, .load 31 (.tmp 15), _, _, _, _⟩) (v := undef) rfl (by kernel_rfl) (by kernel_rfl) (by kernel_rfl) (fun _ _ _ h => h) (Or.inr ⟨by rfl, rfl⟩) hHeld ?_
              simp only [Act.put, List.setIfInBounds_toArray, List.set_cons_zero, List.set_cons_succ]
              refine wpAnyH_take (i := 8) (oi := ⟨some 162, .load 31 (.tmp 9), _, _, _, _⟩) (v := undef) rfl (by kernel_rfl) (by kernel_rfl) (by kernel_rfl) (fun _ _ _ h => h) (Or.inr ⟨by rfl, rfl⟩) hHeld ?_
              simp only [Act.put, List.setIfInBounds_toArray, List.set_cons_zero, List.set_cons_succ]
              refine wpAnyH_take (i := 9) (oi := ⟨some 163, .move (.tmp 18), _, _, _, _⟩) (v := undef) rfl (by kernel_rfl) (by kernel_rfl) (by kernel_rfl) (fun _ _ _ h => h) (Or.inr ⟨by rfl, rfl⟩) hHeld ?_
              simp only [Act.put, List.setIfInBounds_toArray, List.set_cons_zero, List.set_cons_succ]
              refine wpAnyH_take (i := 10) (oi := ⟨some 164, .call { callee := .value (.func 30), args := #[.tmp 159, .tmp 160, .tmp 161, .tmp 162, .tmp 163], argTypes := #[3, 3, 31, 31, 22] }, _, _, _, _⟩) (v := undef) rfl (by kernel_rfl) (by kernel_rfl) (by kernel_rfl) (fun _ _ _ h => h) (Or.inr ⟨by rfl, rfl⟩) hHeld ?_
              simp only [Act.put, List.setIfInBounds_toArray, List.set_cons_zero, List.set_cons_succ]
              refine wpAnyH_take (i := 11) (oi := ⟨some 165, .load 31 (.tmp 9), _, _, _, _⟩) (v := undef) rfl (by kernel_rfl) (by kernel_rfl) (by kernel_rfl) (fun _ _ _ h => h) (Or.inr ⟨by rfl, rfl⟩) hHeld ?_
              simp only [Act.put, List.setIfInBounds_toArray, List.set_cons_zero, List.set_cons_succ]
              refine wpAnyH_take (i := 12) (oi := ⟨some 166, .load 31 (.tmp 14), _, _, _, _⟩) (v := undef) rfl (by kernel_rfl) (by kernel_rfl) (by kernel_rfl) (fun _ _ _ h => h) (Or.inr ⟨by rfl, rfl⟩) hHeld ?_
              simp only [Act.put, List.setIfInBounds_toArray, List.set_cons_zero, List.set_cons_succ]
              refine wpAnyH_take (i := 13) (oi := ⟨some 167, .binOp .eql 31 (.tmp 165) (.tmp 166) 31, _, _, _, _⟩) (v := undef) rfl (by kernel_rfl) (by kernel_rfl) (by kernel_rfl) (fun _ _ _ h => h) (Or.inr ⟨by rfl, rfl⟩) hHeld ?_
              simp only [Act.put, List.setIfInBounds_toArray, List.set_cons_zero, List.set_cons_succ]
              refine wpAnyH_take (i := 14) (oi := ⟨some 168, .binOp .eql 4 (.tmp 164) (.tmp 167) 4, _, _, _, _⟩) (v := undef) rfl (by kernel_rfl) (by kernel_rfl) (by kernel_rfl) (fun _ _ _ h => h) (Or.inr ⟨by rfl, rfl⟩) hHeld ?_
              simp only [Act.put, List.setIfInBounds_toArray, List.set_cons_zero, List.set_cons_succ]
              refine wpAnyH_take (i := 15) (oi := ⟨some 169, .pick (.tmp 158) (.const (.bool true)) (.tmp 168), _, _, _, _⟩) (v := .bool true) rfl (by kernel_rfl) (by kernel_rfl) (by kernel_rfl) (fun _ _ _ h => h) (Or.inl ⟨by rfl, fun w _ => by go_simp⟩) hHeld ?_
              simp only [Act.put, List.setIfInBounds_toArray, List.set_cons_zero, List.set_cons_succ]
              refine wpAnyH_take (i := 16) (oi := ⟨some 170, .pick (.tmp 155) (.tmp 169) (.const (.bool false)), _, _, _, none⟩) (v := .bool true) rfl (by kernel_rfl) (by kernel_rfl) (by kernel_rfl) (fun _ _ _ h => h) (Or.inl ⟨by rfl, fun w _ => by go_simp⟩) hHeld ?_
              simp only [Act.put, List.setIfInBounds_toArray, List.set_cons_zero, List.set_cons_succ]
              refine wpAnyH_take (i := 17) (oi := ⟨some 10, .assign (.tmp 170), _, _, _, none⟩) (v := .bool true) rfl (by kernel_rfl) (by kernel_rfl) (by kernel_rfl) (fun _ _ _ h => h) (Or.inl ⟨by rfl, fun _ _ => rfl⟩) hHeld ?_
              simp only [Act.put, List.setIfInBounds_toArray, List.set_cons_zero, List.set_cons_succ]
              refine wpAnyH_done (by kernel_rfl) ?_ _
              clear hHeld
              go_wp2
              go_ret
              exact ⟨rfl, lr⟩
            · have H26 := Lib.hid (HN2.out (by omega))
              have hne0 : ((f : Int) == 0) = false := beq_eq_false_iff_ne.2 (by omega)
              clear HN1 HN2 HNQ
              go_wp2
              refine wp_region_held_drew (S := fun w' => w'.rangeAt B0 0 (U x) ∧ w'.rangeAt Br 0 (U rt) ∧ w'.rangeAt Bo 0 (U od)) (by kernel_rfl) ⟨blk_at bx.drew, blk_at xr.drew, blk_at xo.drew⟩ (fun hHeld => ?_)
              refine wpAnyH_take (i := 0) (oi := ⟨some 134, .move (.tmp 25), _, _, _, none⟩) (v := .int .i64 q) rfl (by kernel_rfl) (by kernel_rfl) (by kernel_rfl) (fun _ _ _ h => h) (Or.inl ⟨by rfl, fun _ _ => rfl⟩) hHeld ?_
              simp only [Act.put, List.setIfInBounds_toArray, List.set_cons_zero, List.set_cons_succ]
              refine wpAnyH_take (i := 1) (oi := ⟨some 135, .move (.tmp 13), _, _, _, none⟩) (v := .int .i64 f) rfl (by kernel_rfl) (by kernel_rfl) (by kernel_rfl) (fun _ _ _ h => h) (Or.inl ⟨by rfl, fun _ _ => rfl⟩) hHeld ?_
              simp only [Act.put, List.setIfInBounds_toArray, List.set_cons_zero, List.set_cons_succ]
              refine wpAnyH_take (i := 2) (oi := ⟨some 136, .binOp .neq 3 (.tmp 134) (.tmp 135) 3, _, _, _, none⟩) (v := .bool true) rfl (by kernel_rfl) (by kernel_rfl) (by kernel_rfl) (fun _ _ _ h => h) (Or.inl ⟨by rfl, fun w _ => by go_simp⟩) hHeld ?_
              simp only [Act.put, List.setIfInBounds_toArray, List.set_cons_zero, List.set_cons_succ]
              refine wpAnyH_take (i := 3) (oi := ⟨some 137, .move (.tmp 136), _, _, _, none⟩) (v := .bool true) rfl (by kernel_rfl) (by kernel_rfl) (by kernel_rfl) (fun _ _ _ h => h) (Or.inl ⟨by rfl, fun _ _ => rfl⟩) hHeld ?_
              simp only [Act.put, List.setIfInBounds_toArray, List.set_cons_zero, List.set_cons_succ]
              refine wpAnyH_take (i := 4) (oi := ⟨some 138, .move (.tmp 13), _, _, _, _⟩) (v := undef) rfl (by kernel_rfl) (by kernel_rfl) (by kernel_rfl) (fun _ _ _ h => h) (Or.inr ⟨by rfl, rfl⟩) hHeld ?_
              simp only [Act.put, List.setIfInBounds_toArray, List.set_cons_zero, List.set_cons_succ]
              refine wpAnyH_take (i := 5) (oi := ⟨some 139, .move (.tmp 11), _, _, _, _⟩) (v := undef) rfl (by kernel_rfl) (by kernel_rfl) (by kernel_rfl) (fun _ _ _ h => h) (Or.inr ⟨by rfl, rfl⟩) hHeld ?_
              simp only [Act.put, List.setIfInBounds_toArray, List.set_cons_zero, List.set_cons_succ]
              refine wpAnyH_take (i := 6) (oi := ⟨some 140, .binOp .eql 3 (.tmp 138) (.tmp 139) 3, _, _, _, _⟩) (v := undef) rfl (by kernel_rfl) (by kernel_rfl) (by kernel_rfl) (fun _ _ _ h => h) (Or.inr ⟨by rfl, rfl⟩) hHeld ?_
              simp only [Act.put, List.setIfInBounds_toArray, List.set_cons_zero, List.set_cons_succ]
              refine wpAnyH_take (i := 7) (oi := ⟨some 141, .pick (.tmp 137) (.const (.bool true)) (.tmp 140), _, _, _, none⟩) (v := .bool true) rfl (by kernel_rfl) (by kernel_rfl) (by kernel_rfl) (fun _ _ _ h => h) (Or.inl ⟨by rfl, fun w _ => by go_simp⟩) hHeld ?_
              simp only [Act.put, List.setIfInBounds_toArray, List.set_cons_zero, List.set_cons_succ]
              refine wpAnyH_take (i := 8) (oi := ⟨some 142, .move (.tmp 141), _, _, _, none⟩) (v := .bool true) rfl (by kernel_rfl) (by kernel_rfl) (by kernel_rfl) (fun _ _ _ h => h) (Or.inl ⟨by rfl, fun _ _ => rfl⟩) hHeld ?_
              simp only [Act.put, List.setIfInBounds_toArray, List.set_cons_zero, List.set_cons_succ]
              refine wpAnyH_take (i := 9) (oi := ⟨some 143, .move (.tmp 13), _, _, _, _⟩) (v := .int .i64 f) rfl (by kernel_rfl) (by kernel_rfl) (by kernel_rfl) (fun _ _ _ h => h) (Or.inl ⟨by rfl, fun _ _ => rfl⟩) hHeld ?_
              simp only [Act.put, List.setIfInBounds_toArray, List.set_cons_zero, List.set_cons_succ]
              refine wpAnyH_take (i := 10) (oi := ⟨some 144, .move (.tmp 11), _, _, _, _⟩) (v := .int .i64 k) rfl (by kernel_rfl) (by kernel_rfl) (by kernel_rfl) (fun _ _ _ h => h) (Or.inl ⟨by rfl, fun _ _ => rfl⟩) hHeld ?_
              simp only [Act.put, List.setIfInBounds_toArray, List.set_cons_zero, List.set_cons_succ]
              refine wpAnyH_take (i := 11) (oi := ⟨some 145, .load 31 (.tmp 9), _, _, _, _⟩) (v := .agg (U x).toArray) rfl (by kernel_rfl) (by kernel_rfl) (by kernel_rfl) (fun _ _ _ h => h) (yieldsIf_load_mid (by rfl) _ _ rfl _ _ rfl _ _ (fun w h => h.1) Tryd.underlying31 rfl (dig_sz HDX.out.1)) hHeld ?_
              simp only [Act.put, List.setIfInBounds_toArray, List.set_cons_zero, List.set_cons_succ]
              refine wpAnyH_take (i := 12) (oi := ⟨some 146, .load 31 (.tmp 14), _, _, _, _⟩) (v := .agg (U rt).toArray) rfl (by kernel_rfl) (by kernel_rfl) (by kernel_rfl) (fun _ _ _ h => h) (yieldsIf_load_mid (by rfl) _ _ rfl _ _ rfl _ _ (fun w h => h.2.1) Tryd.underlying31 rfl (dig_sz HDR.out.1)) hHeld ?_
              simp only [Act.put, List.setIfInBounds_toArray, List.set_cons_zero, List.set_cons_succ]
              refine wpAnyH_take (i := 13) (oi := ⟨some 147, .move (.tmp 18), _, _, _, _⟩) (v := .slice A2 J2.length c2) rfl (by kernel_rfl) (by kernel_rfl) (by kernel_rfl) (fun _ _ _ h => h) (Or.inl ⟨by rfl, fun _ _ => rfl⟩) hHeld ?_
              simp only [Act.put, List.setIfInBounds_toArray, List.set_cons_zero, List.set_cons_succ]
              refine wpAnyH_take (i := 15) (oi := ⟨some 149, .load 31 (.tmp 9), _, _, _, _⟩) (v := .agg (U x).toArray) rfl (by kernel_rfl) (by kernel_rfl) (by kernel_rfl) (fun _ _ _ h => h) (yieldsIf_load_mid (by rfl) _ _ rfl _ _ rfl _ _ (fun w h => h.1) Tryd.underlying31 rfl (dig_sz HDX.out.1)) hHeld ?_
              simp only [Act.put, List.setIfInBounds_toArray, List.set_cons_zero, List.set_cons_succ]
              refine wpAnyH_take (i := 16) (oi := ⟨some 150, .load 31 (.tmp 15), _, _, _, _⟩) (v := .agg (U od).toArray) rfl (by kernel_rfl) (by kernel_rfl) (by kernel_rfl) (fun _ _ _ h => h) (yieldsIf_load_mid (by rfl) _ _ rfl _ _ rfl _ _ (fun w h => h.2.2) Tryd.underlying31 rfl (dig_sz HDO.out.1)) hHeld ?_
              simp only [Act.put, List.setIfInBounds_toArray, List.set_cons_zero, List.set_cons_succ]
              refine wpAnyH_take (i := 17) (oi := ⟨some 151, .binOp .eql 31 (.tmp 149) (.tmp 150) 31, _, _, _, _⟩) (v := .bool z1) rfl (by kernel_rfl) (by kernel_rfl) (by kernel_rfl) (fun _ _ _ h => h) (Or.inl ⟨by rfl, fun w _ => by go_simp⟩) hHeld ?_
              simp only [Act.put, List.setIfInBounds_toArray, List.set_cons_zero, List.set_cons_succ]
              refine wpAnyH_ready (rs := [14]) (by kernel_rfl) (by simp) (AllReadyH.cons (o := ⟨some 148, .call { callee := .value (.func 30), args := #[.tmp 143, .tmp 144, .tmp 145, .tmp 146, .tmp 147], argTypes := #[3, 3, 31, 31, 22] }, _, _, _, _⟩) rfl (fun K' hK => ?_) (AllReadyH.nil))
              go_simp
              replace bx := bx.drew; replace xr := xr.drew; replace xo := xo.drew; replace p2 := p2.drew; replace lr := lr.drew
              refine (H24.out _ p2 lr).mono ?_
              rintro e wu ⟨rfl, h9⟩
              replace bx := bx.keep h9; replace xr := xr.keep h9; replace xo := xo.keep h9; replace p2 := p2.keep h9; replace lr := Later.trans_ lr h9
              refine hK.out _ _ ⟨blk_at bx, blk_at xr, blk_at xo⟩ (fun hHeld => ?_)
              clear hK K'
              try simp only [Act.put, List.setIfInBounds_toArray, List.set_cons_zero, List.set_cons_succ]
              refine wpAnyH_take (i := 18) (oi := ⟨some 152, .binOp .neq 4 (.tmp 148) (.tmp 151) 4, _, _, _, _⟩) (v := .bool false) rfl (by kernel_rfl) (by kernel_rfl) (by kernel_rfl) (fun _ _ _ h => h) (Or.inl ⟨by rfl, fun w _ => by go_simp⟩) hHeld ?_
              simp only [Act.put, List.setIfInBounds_toArray, List.set_cons_zero, List.set_cons_succ]
              refine wpAnyH_take (i := 19) (oi := ⟨some 153, .pick (.tmp 142) (.tmp 152) (.const (.bool false)), _, _, _, none⟩) (v := .bool false) rfl (by kernel_rfl) (by kernel_rfl) (by kernel_rfl) (fun _ _ _ h => h) (Or.inl ⟨by rfl, fun w _ => by go_simp⟩) hHeld ?_
              simp only [Act.put, List.setIfInBounds_toArray, List.set_cons_zero, List.set_cons_succ]
              refine wpAnyH_done (by kernel_rfl) ?_ _
              clear hHeld
              go_wp2
              refine wp_region_held_drew (S := fun w' => w'.rangeAt B0 0 (U x) ∧ w'.rangeAt Br 0 (U rt) ∧ w'.rangeAt Bo 0 (U od)) (by kernel_rfl) ⟨blk_at bx.drew, blk_at xr.drew, blk_at xo.drew⟩ (fun hHeld => ?_)
              refine wpAnyH_ready (rs := [0]) (by kernel_rfl) (by simp) (AllReadyH.cons (o := ⟨some 154, .call { callee := .value (.func 9), args := #[], argTypes := #[] }, _, _, _, none⟩) rfl (fun K' hK => ?_) (AllReadyH.nil))
              go_simp
              replace bx := bx.drew; replace xr := xr.drew; replace xo := xo.drew; replace p2 := p2.drew; replace lr := lr.drew
              refine (HSN.out _ lr).mono ?_
              rintro e wv ⟨rfl, h10⟩
              replace bx := bx.keep h10; replace xr := xr.keep h10; replace xo := xo.keep h10; replace p2 := p2.keep h10; replace lr := Later.trans_ lr h10
              refine hK.out _ _ ⟨blk_at bx, blk_at xr, blk_at xo⟩ (fun hHeld => ?_)
              clear hK K'
              try simp only [Act.put, List.setIfInBounds_toArray, List.set_cons_zero, List.set_cons_succ]
              refine wpAnyH_take (i := 1) (oi := ⟨some 155, .move (.tmp 154), _, _, _, none⟩) (v := .bool true) rfl (by kernel_rfl) (by kernel_rfl) (by kernel_rfl) (fun _ _ _ h => h) (Or.inl ⟨by rfl, fun _ _ => rfl⟩) hHeld ?_
              simp only [Act.put, List.setIfInBounds_toArray, List.set_cons_zero, List.set_cons_succ]
              refine wpAnyH_take (i := 2) (oi := ⟨some 156, .move (.tmp 13), _, _, _, _⟩) (v := .int .i64 f) rfl (by kernel_rfl) (by kernel_rfl) (by kernel_rfl) (fun _ _ _ h => h) (Or.inl ⟨by rfl, fun _ _ => rfl⟩) hHeld ?_
              simp only [Act.put, List.setIfInBounds_toArray, List.set_cons_zero, List.set_cons_succ]
              refine wpAnyH_take (i := 3) (oi := ⟨some 157, .binOp .eql 3 (.tmp 156) (.const (.int .i64 0)) 3, _, _, _, _⟩) (v := .bool false) rfl (by kernel_rfl) (by kernel_rfl) (by kernel_rfl) (fun _ _ _ h => h) (Or.inl ⟨by rfl, fun w _ => by go_simp⟩) hHeld ?_
              simp only [Act.put, List.setIfInBounds_toArray, List.set_cons_zero, List.set_cons_succ]
              refine wpAnyH_take (i := 4) (oi := ⟨some 158, .move (.tmp 157), _, _, _, _⟩) (v := .bool false) rfl (by kernel_rfl) (by kernel_rfl) (by kernel_rfl) (fun _ _ _ h => h) (Or.inl ⟨by rfl, fun _ _ => rfl⟩) hHeld ?_
              simp only [Act.put, List.setIfInBounds_toArray, List.set_cons_zero, List.set_cons_succ]
              refine wpAnyH_take (i := 5) (oi := ⟨some 159, .move (.tmp 13), _, _, _, _⟩) (v := .int .i64 f) rfl (by kernel_rfl) (by kernel_rfl) (by kernel_rfl) (fun _ _ _ h => h) (Or.inl ⟨by rfl, fun _ _ => rfl⟩) hHeld ?_
              simp only [Act.put, List.setIfInBounds_toArray, List.set_cons_zero, List.set_cons_succ]
              refine wpAnyH_take (i := 6) (oi := ⟨some 160, .move (.tmp 11), _, _, _, _⟩) (v := .int .i64 k) rfl (by kernel_rfl) (by kernel_rfl) (by kernel_rfl) (fun _ _ _ h => h) (Or.inl ⟨by rfl, fun _ _ => rfl⟩) hHeld ?_
              simp only [Act.put, List.setIfInBounds_toArray, List.set_cons_zero, List.set_cons_succ]
              refine wpAnyH_take (i := 7) (oi := ⟨some 161, .load 31 (.tmp 15), _, _, _, _⟩) (v := .agg (U od).toArray) rfl (by kernel_rfl) (by kernel_rfl) (by kernel_rfl) (fun _ _ _ h => h) (yieldsIf_load_mid (by rfl) _ _ rfl _ _ rfl _ _ (fun w h => h.2.2) Tryd.underlying31 rfl (dig_sz HDO.out.1)) hHeld ?_
              simp only [Act.put, List.setIfInBounds_toArray, List.set_cons_zero, List.set_cons_succ]
              refine wpAnyH_take (i := 8) (oi := ⟨some 162, .load 31 (.tmp 9), _, _, _, _⟩) (v := .agg (U x).toArray) rfl (by kernel_rfl) (by kernel_rfl) (by kernel_rfl) (fun _ _ _ h => h) (yieldsIf_load_mid (by rfl) _ _ rfl _ _ rfl _ _ (fun w h => h.1) Tryd.underlying31 rfl (dig_sz HDX.out.1)) hHeld ?_
              simp only [Act.put, List.setIfInBounds_toArray, List.set_cons_zero, List.set_cons_succ]
              refine wpAnyH_take (i := 9) (oi := ⟨some 163, .move (.tmp 18), _, _, _, _⟩) (v := .slice A2 J2.length c2) rfl (by kernel_rfl) (by kernel_rfl) (by kernel_rfl) (fun _ _ _ h => h) (Or.inl ⟨by rfl, fun _ _ => rfl⟩) hHeld ?_
              simp only [Act.put, List.setIfInBounds_toArray, List.set_cons_zero, List.set_cons_succ]
              refine wpAnyH_take (i := 11) (oi := ⟨some 165, .load 31 (.tmp 9), _, _, _, _⟩) (v := .agg (U x).toArray) rfl (by kernel_rfl) (by kernel_rfl) (by kernel_rfl) (fun _ _ _ h => h) (yieldsIf_load_mid (by rfl) _ _ rfl _ _ rfl _ _ (fun w h => h.1) Tryd.underlying31 rfl (dig_sz HDX.out.1)) hHeld ?_
              simp only [Act.put, List.setIfInBounds_toArray, List.set_cons_zero, List.set_cons_succ]
              refine wpAnyH_take (i := 12) (oi := ⟨some 166, .load 31 (.tmp 14), _, _, _, _⟩) (v := .agg (U rt).toArray) rfl (by kernel_rfl) (by kernel_rfl) (by kernel_rfl) (fun _ _ _ h => h) (yieldsIf_load_mid (by rfl) _ _ rfl _ _ rfl _ _ (fun w h => h.2.1) Tryd.underlying31 rfl (dig_sz HDR.out.1)) hHeld ?_
              simp only [Act.put, List.setIfInBounds_toArray, List.set_cons_zero, List.set_cons_succ]
              refine wpAnyH_take (i := 13) (oi := ⟨some 167, .binOp .eql 31 (.tmp 165) (.tmp 166) 31, _, _, _, _⟩) (v := .bool z2) rfl (by kernel_rfl) (by kernel_rfl) (by kernel_rfl) (fun _ _ _ h => h) (Or.inl ⟨by rfl, fun w _ => by go_simp⟩) hHeld ?_
              simp only [Act.put, List.setIfInBounds_toArray, List.set_cons_zero, List.set_cons_succ]
              refine wpAnyH_ready (rs := [10]) (by kernel_rfl) (by simp) (AllReadyH.cons (o := ⟨some 164, .call { callee := .value (.func 30), args := #[.tmp 159, .tmp 160, .tmp 161, .tmp 162, .tmp 163], argTypes := #[3, 3, 31, 31, 22] }, _, _, _, _⟩) rfl (fun K' hK => ?_) (AllReadyH.nil))
              go_simp
              refine (H26.out _ p2 lr).mono ?_
              rintro e ww ⟨rfl, h11⟩
              replace bx := bx.keep h11; replace xr := xr.keep h11; replace xo := xo.keep h11; replace p2 := p2.keep h11; replace lr := Later.trans_ lr h11
              refine hK.out _ _ ⟨blk_at bx, blk_at xr, blk_at xo⟩ (fun hHeld => ?_)
              clear hK K'
              try simp only [Act.put, List.setIfInBounds_toArray, List.set_cons_zero, List.set_cons_succ]
              refine wpAnyH_take (i := 14) (oi := ⟨some 168, .binOp .eql 4 (.tmp 164) (.tmp 167) 4, _, _, _, _⟩) (v := .bool true) rfl (by kernel_rfl) (by kernel_rfl) (by kernel_rfl) (fun _ _ _ h => h) (Or.inl ⟨by rfl, fun w _ => by go_simp⟩) hHeld ?_
              simp only [Act.put, List.setIfInBounds_toArray, List.set_cons_zero, List.set_cons_succ]
              refine wpAnyH_take (i := 15) (oi := ⟨some 169, .pick (.tmp 158) (.const (.bool true)) (.tmp 168), _, _, _, _⟩) (v := .bool true) rfl (by kernel_rfl) (by kernel_rfl) (by kernel_rfl) (fun _ _ _ h => h) (Or.inl ⟨by rfl, fun w _ => by go_simp⟩) hHeld ?_
              simp only [Act.put, List.setIfInBounds_toArray, List.set_cons_zero, List.set_cons_succ]
              refine wpAnyH_take (i := 16) (oi := ⟨some 170, .pick (.tmp 155) (.tmp 169) (.const (.bool false)), _, _, _, none⟩) (v := .bool true) rfl (by kernel_rfl) (by kernel_rfl) (by kernel_rfl) (fun _ _ _ h => h) (Or.inl ⟨by rfl, fun w _ => by go_simp⟩) hHeld ?_
              simp only [Act.put, List.setIfInBounds_toArray, List.set_cons_zero, List.set_cons_succ]
              refine wpAnyH_take (i := 17) (oi := ⟨some 10, .assign (.tmp 170), _, _, _, none⟩) (v := .bool true) rfl (by kernel_rfl) (by kernel_rfl) (by kernel_rfl) (fun _ _ _ h => h) (Or.inl ⟨by rfl, fun _ _ => rfl⟩) hHeld ?_
              simp only [Act.put, List.setIfInBounds_toArray, List.set_cons_zero, List.set_cons_succ]
              refine wpAnyH_done (by kernel_rfl) ?_ _
              clear hHeld
              go_wp2
              go_ret
              exact ⟨rfl, lr⟩
end Go.Proofs.YtonfdgbohmcpjabDoor
