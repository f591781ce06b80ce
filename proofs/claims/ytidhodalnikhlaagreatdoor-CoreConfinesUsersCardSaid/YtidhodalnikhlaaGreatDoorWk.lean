/-
  THE INSTRUCTIONS OF a step, four: those of the memory.
-/
import Derived.Test.YtidhodalnikhlaaGreatDoorWj
namespace Go.Proofs.YtidhodalnikhlaaGreatDoor
open Go.RowKit Go.ChangeShapes Go.WideShapes Go.ChangeAt

/-- The address that an instruction names. -/
def Sp.va (s : Sp) : Int := (s.c.rg s.ib + s.im) % 4294967296
theorem Sp.va_rg (s : Sp) : 0 ≤ s.va ∧ s.va ≤ 4294967295 := by unfold Sp.va; omega
set_option maxRecDepth 100000 in
set_option maxHeartbeats 2000000 in
theorem operand_ok {base : Nat} {w : World} {B : Nat} {s : Sp} {A : Option Addr} {n c : Nat} {ws : List (Int × Int × Int)} {ac : List (Int × Int × Bool)} {b : Wm.Bs} (h : At base w B s A n c ws ac b) (hl1 : ac.length ≤ 800) (hl2 : ws.length ≤ 800) (hb : Wm.isBs b) (hn : n ≤ 64) (hr0 : 0 ≤ s.c.c0 ∧ s.c.c0 ≤ 4294967295) (hr : Im.Right s.ins) (hz : accS s.io = 1 ∨ accS s.io = 4) (P : Cm.Pl) (hP : Cm.place n b s.c.c0 s.c.u s.va (accA s.io) (accS s.io) = P) (ho : P.ok = true) : Calls Tryz.prog 172 #[.pointer (some ⟨B, 0, none⟩)] w fun e w' => e = .returned (.tuple #[.int .i64 P.a, .int .i64 (accS s.io)]) ∧ ∃ v u A' c', At base w' B (s.lay v u (.slice A' n c')) A' n c' (ws ++ P.w) (ac ++ P.c) P.b ∧ St base B w s w' (s.lay v u (.slice A' n c')) := by
  have HS := Lib.hid (sum_at h.bx hr)
  have HP := Lib.hid fun w' (l : Later w w') => splace_any (h.later l) (by omega) (by omega) hb hn hr0 s.va (accA s.io) (accS s.io) s.va_rg hz P hP
  rw [ho] at HP
  have HX := Lib.hid fun w' => access_any s.io w'
  have e0 := h.bx.cell (j := 32) (v := .int .i64 s.io) rfl
  have hlt := h.lt
  have hva : s.va = (s.c.rg s.ib + s.im) % 4294967296 := rfl
  rw [← hva] at HS
  obtain ⟨va, hv⟩ : ∃ v, v = s.va := ⟨_, rfl⟩
  rw [← hv] at HS HP
  obtain ⟨ax, hax⟩ : ∃ v, v = accA s.io := ⟨_, rfl⟩
  obtain ⟨sz, hsz⟩ : ∃ v, v = accS s.io := ⟨_, rfl⟩
  rw [← hax, ← hsz] at HX HP
  rw [← hsz]
  clear h hl1 hl2 hb hn hr0 hr hz hP ho hva hv hax hsz
  go_enter Tryz.func172, Tryz.ntmps172
  go_wp2_with (first
    | (go_at_call 184; refine (HX.out _).mono ?_; rintro e w0 ⟨rfl, rfl⟩)
    | (go_at_call 171; refine HS.out.mono ?_; rintro e w1 ⟨rfl, l1⟩)
    | (go_at_call 116; refine (HP.out _ l1).mono ?_; rintro e w2 ⟨rfl, v, u, A', c', hA, hS⟩))
  go_ret2
  exact ⟨rfl, v, u, A', c', hA, (St.later _ hlt l1).trans hS⟩
set_option maxRecDepth 100000 in
set_option maxHeartbeats 2000000 in
theorem operand_bad {base : Nat} {w : World} {B : Nat} {s : Sp} {A : Option Addr} {n c : Nat} {ws : List (Int × Int × Int)} {ac : List (Int × Int × Bool)} {b : Wm.Bs} (h : At base w B s A n c ws ac b) (hl1 : ac.length ≤ 800) (hl2 : ws.length ≤ 800) (hb : Wm.isBs b) (hn : n ≤ 64) (hr0 : 0 ≤ s.c.c0 ∧ s.c.c0 ≤ 4294967295) (hr : Im.Right s.ins) (hz : accS s.io = 1 ∨ accS s.io = 4) (P : Cm.Pl) (hP : Cm.place n b s.c.c0 s.c.u s.va (accA s.io) (accS s.io) = P) (ho : P.ok = false) : Calls Tryz.prog 172 #[.pointer (some ⟨B, 0, none⟩)] w fun e w' => e = .panicked (Lv P.ca s.va s.old.pc) ∧ ∃ v u A' c', At base w' B (s.lay v u (.slice A' n c')) A' n c' (ws ++ P.w) (ac ++ P.c) P.b ∧ St base B w s w' (s.lay v u (.slice A' n c')) := by
  have HS := Lib.hid (sum_at h.bx hr)
  have HP := Lib.hid fun w' (l : Later w w') => splace_any (h.later l) (by omega) (by omega) hb hn hr0 s.va (accA s.io) (accS s.io) s.va_rg hz P hP
  rw [ho] at HP
  have HX := Lib.hid fun w' => access_any s.io w'
  have e0 := h.bx.cell (j := 32) (v := .int .i64 s.io) rfl
  have hlt := h.lt
  have hva : s.va = (s.c.rg s.ib + s.im) % 4294967296 := rfl
  rw [← hva] at HS
  obtain ⟨va, hv⟩ : ∃ v, v = s.va := ⟨_, rfl⟩
  rw [← hv] at HS HP ⊢
  obtain ⟨ax, hax⟩ : ∃ v, v = accA s.io := ⟨_, rfl⟩
  obtain ⟨sz, hsz⟩ : ∃ v, v = accS s.io := ⟨_, rfl⟩
  rw [← hax, ← hsz] at HX HP
  clear h hl1 hl2 hb hn hr0 hr hz hP ho hva hv hax hsz
  go_enter Tryz.func172, Tryz.ntmps172
  go_wp2_with (first
    | (go_at_call 184; refine (HX.out _).mono ?_; rintro e w0 ⟨rfl, rfl⟩)
    | (go_at_call 171; refine HS.out.mono ?_; rintro e w1 ⟨rfl, l1⟩)
    | (go_at_call 116; refine (HP.out _ l1).mono ?_; rintro e w2 ⟨rfl, v, u, A', c', hA, hS⟩))
  exact ⟨rfl, rfl, v, u, A', c', hA, (St.later _ hlt l1).trans hS⟩
set_option maxRecDepth 100000 in
set_option maxHeartbeats 2000000 in
theorem read_bad {base : Nat} {w : World} {B : Nat} {s : Sp} {A : Option Addr} {n c : Nat} {ws : List (Int × Int × Int)} {ac : List (Int × Int × Bool)} {b : Wm.Bs} (h : At base w B s A n c ws ac b) (hl1 : ac.length ≤ 800) (hl2 : ws.length ≤ 800) (hb : Wm.isBs b) (hn : n ≤ 64) (hr0 : 0 ≤ s.c.c0 ∧ s.c.c0 ≤ 4294967295) (hr : Im.Right s.ins) (hz : accS s.io = 1 ∨ accS s.io = 4) (P : Cm.Pl) (hP : Cm.place n b s.c.c0 s.c.u s.va (accA s.io) (accS s.io) = P) (ho : P.ok = false) : Calls Tryz.prog 153 #[.pointer (some ⟨B, 0, none⟩)] w fun e w' => e = .panicked (Lv P.ca s.va s.old.pc) ∧ ∃ v u A' c', At base w' B (s.lay v u (.slice A' n c')) A' n c' (ws ++ P.w) (ac ++ P.c) P.b ∧ St base B w s w' (s.lay v u (.slice A' n c')) := by
  have HO := Lib.hid (operand_bad h hl1 hl2 hb hn hr0 hr hz P hP ho)
  clear h hl1 hl2 hb hn hr0 hr hz hP ho
  go_enter Tryz.func153, Tryz.ntmps153
  go_wp2_with (go_at_call 172; refine HO.out.mono ?_; rintro e w2 ⟨rfl, v, u, A', c', hA, hS⟩)
  exact ⟨rfl, rfl, v, u, A', c', hA, hS⟩
set_option maxRecDepth 100000 in
set_option maxHeartbeats 2000000 in
theorem write_bad {base : Nat} {w : World} {B : Nat} {s : Sp} {A : Option Addr} {n c : Nat} {ws : List (Int × Int × Int)} {ac : List (Int × Int × Bool)} {b : Wm.Bs} (h : At base w B s A n c ws ac b) (hl1 : ac.length ≤ 800) (hl2 : ws.length ≤ 800) (hb : Wm.isBs b) (hn : n ≤ 64) (hr0 : 0 ≤ s.c.c0 ∧ s.c.c0 ≤ 4294967295) (hr : Im.Right s.ins) (hz : accS s.io = 1 ∨ accS s.io = 4) (P : Cm.Pl) (hP : Cm.place n b s.c.c0 s.c.u s.va (accA s.io) (accS s.io) = P) (ho : P.ok = false) : Calls Tryz.prog 154 #[.pointer (some ⟨B, 0, none⟩)] w fun e w' => e = .panicked (Lv P.ca s.va s.old.pc) ∧ ∃ v u A' c', At base w' B (s.lay v u (.slice A' n c')) A' n c' (ws ++ P.w) (ac ++ P.c) P.b ∧ St base B w s w' (s.lay v u (.slice A' n c')) := by
  have HO := Lib.hid (operand_bad h hl1 hl2 hb hn hr0 hr hz P hP ho)
  clear h hl1 hl2 hb hn hr0 hr hz hP ho
  go_enter Tryz.func154, Tryz.ntmps154
  go_wp2_with (go_at_call 172; refine HO.out.mono ?_; rintro e w2 ⟨rfl, v, u, A', c', hA, hS⟩)
  exact ⟨rfl, rfl, v, u, A', c', hA, hS⟩
set_option maxRecDepth 100000 in
set_option maxHeartbeats 2000000 in
theorem swap_bad {base : Nat} {w : World} {B : Nat} {s : Sp} {A : Option Addr} {n c : Nat} {ws : List (Int × Int × Int)} {ac : List (Int × Int × Bool)} {b : Wm.Bs} (h : At base w B s A n c ws ac b) (hl1 : ac.length ≤ 800) (hl2 : ws.length ≤ 800) (hb : Wm.isBs b) (hn : n ≤ 64) (hr0 : 0 ≤ s.c.c0 ∧ s.c.c0 ≤ 4294967295) (hr : Im.Right s.ins) (hz : accS s.io = 1 ∨ accS s.io = 4) (P : Cm.Pl) (hP : Cm.place n b s.c.c0 s.c.u s.va (accA s.io) (accS s.io) = P) (ho : P.ok = false) : Calls Tryz.prog 155 #[.pointer (some ⟨B, 0, none⟩)] w fun e w' => e = .panicked (Lv P.ca s.va s.old.pc) ∧ ∃ v u A' c', At base w' B (s.lay v u (.slice A' n c')) A' n c' (ws ++ P.w) (ac ++ P.c) P.b ∧ St base B w s w' (s.lay v u (.slice A' n c')) := by
  have HO := Lib.hid (operand_bad h hl1 hl2 hb hn hr0 hr hz P hP ho)
  clear h hl1 hl2 hb hn hr0 hr hz hP ho
  go_enter Tryz.func155, Tryz.ntmps155
  go_wp2_with (go_at_call 172; refine HO.out.mono ?_; rintro e w2 ⟨rfl, v, u, A', c', hA, hS⟩)
  exact ⟨rfl, rfl, v, u, A', c', hA, hS⟩
set_option maxRecDepth 100000 in
set_option maxHeartbeats 2000000 in
theorem read_ok {base : Nat} {w : World} {B : Nat} {s : Sp} {A : Option Addr} {n c : Nat} {ws : List (Int × Int × Int)} {ac : List (Int × Int × Bool)} {b : Wm.Bs} (h : At base w B s A n c ws ac b) (hl1 : ac.length ≤ 800) (hl2 : ws.length ≤ 800) (hb : Wm.isBs b) (hn : n ≤ 64) (hr0 : 0 ≤ s.c.c0 ∧ s.c.c0 ≤ 4294967295) (hr : Im.Right s.ins) (hz : accS s.io = 1 ∨ accS s.io = 4) (P : Cm.Pl) (hP : Cm.place n b s.c.c0 s.c.u s.va (accA s.io) (accS s.io) = P) (ho : P.ok = true) (tab : Tab w) (h0 : 0 < base) : Calls Tryz.prog 153 #[.pointer (some ⟨B, 0, none⟩)] w fun e w' => e = .returned (.tuple #[]) ∧ ∃ v u A' c', At base w' B { (s.lay v u (.slice A' n c')) with c := s.c.putR s.ins (Mm.ld P.b P.a (accS s.io)) } A' n c' (ws ++ P.w) ((ac ++ P.c) ++ [(P.a, accS s.io, false)]) P.b ∧ St base B w s w' { (s.lay v u (.slice A' n c')) with c := s.c.putR s.ins (Mm.ld P.b P.a (accS s.io)) } := by
  have HO := Lib.hid (operand_ok h hl1 hl2 hb hn hr0 hr hz P hP ho)
  obtain ⟨g1, g2, g3, _, g5, _⟩ := Cm.place_rg n s.c.c0 s.c.u s.va (accA s.io) (accS s.io) hb hr0 s.va_rg
  rw [hP] at g1 g2 g3 g5
  have HL := Lib.hid fun w' s' A' c' (h' : At base w' B s' A' n c' (ws ++ P.w) (ac ++ P.c) P.b) => sload_any h' (by rw [List.length_append]; omega) g3 hn P.a (accS s.io) (by omega)
  have HP := Lib.hid fun w' (l : Below base w w') s' x A' c' (h' : At base w' B s' A' n c' (ws ++ P.w) ((ac ++ P.c) ++ [(P.a, accS s.io, false)]) P.b) (e : s'.ins = s.ins) => put_any h' (e ▸ hr) (tab.below h0 l) x
  obtain ⟨x, hx⟩ : ∃ x, x = (Mm.ld P.b P.a (accS s.io)) := ⟨_, rfl⟩
  obtain ⟨sz, hsz⟩ : ∃ v, v = accS s.io := ⟨_, rfl⟩
  rw [← hx] at HL ⊢
  rw [← hsz] at HO HL HP ⊢
  clear h hl1 hl2 hb hn hr0 hr hz hP ho tab h0 g1 g2 g3 g5 hx hsz
  go_enter Tryz.func153, Tryz.ntmps153
  go_wp2_with (first
    | (go_at_call 172; refine HO.out.mono ?_; rintro e w2 ⟨rfl, v, u, A', c', hA, hS⟩)
    | (go_at_call 117; refine (HL.out _ _ _ _ hA).mono ?_; rintro e w3 ⟨rfl, v3, hA3, hS3⟩; replace hS3 := hS.trans hS3)
    | (go_at_call 142; refine (HP.out _ hS3.lt _ _ _ _ hA3 rfl).mono ?_; rintro e w4 ⟨rfl, hA4, hS4⟩))
  go_end0
  exact ⟨rfl, v3, u, A', c', hA4, hS3.trans hS4⟩
set_option maxRecDepth 100000 in
set_option maxHeartbeats 2000000 in
theorem write_ok {base : Nat} {w : World} {B : Nat} {s : Sp} {A : Option Addr} {n c : Nat} {ws : List (Int × Int × Int)} {ac : List (Int × Int × Bool)} {b : Wm.Bs} (h : At base w B s A n c ws ac b) (hl1 : ac.length ≤ 800) (hl2 : ws.length ≤ 800) (hb : Wm.isBs b) (hn : n ≤ 64) (hr0 : 0 ≤ s.c.c0 ∧ s.c.c0 ≤ 4294967295) (hr : Im.Right s.ins) (hz : accS s.io = 1 ∨ accS s.io = 4) (P : Cm.Pl) (hP : Cm.place n b s.c.c0 s.c.u s.va (accA s.io) (accS s.io) = P) (ho : P.ok = true) : Calls Tryz.prog 154 #[.pointer (some ⟨B, 0, none⟩)] w fun e w' => e = .returned (.tuple #[]) ∧ ∃ v u A' c', At base w' B (s.lay v u (.slice A' n c')) A' n c' ((ws ++ P.w) ++ [(P.a, accS s.io, s.c.rg s.ia)]) ((ac ++ P.c) ++ [(P.a, accS s.io, true)]) P.b ∧ St base B w s w' (s.lay v u (.slice A' n c')) := by
  have HO := Lib.hid (operand_ok h hl1 hl2 hb hn hr0 hr hz P hP ho)
  obtain ⟨g1, g2, g3, _, g5, _⟩ := Cm.place_rg n s.c.c0 s.c.u s.va (accA s.io) (accS s.io) hb hr0 s.va_rg
  rw [hP] at g1 g2 g3 g5
  have HA := Lib.hid fun w' (s' : Sp) (h' : Blk w' B 86 s'.cells) (e : s'.ins = s.ins) (e2 : s'.c = s.c) => (show Calls Tryz.prog 169 #[.pointer (some ⟨B, 0, none⟩)] w' fun e w'' => e = .returned (.int .u32 (s.c.rg s.ia)) ∧ Later w' w'' from by have q := a_at h' (e ▸ hr); rw [e2, show s'.ia = s.ia from congrArg Im.I.a e] at q; exact q)
  have HW := Lib.hid fun w' s' A' c' (h' : At base w' B s' A' n c' (ws ++ P.w) (ac ++ P.c) P.b) => sstore_any h' (by rw [List.length_append]; omega) (by rw [List.length_append]; omega) P.a (accS s.io) (s.c.rg s.ia)
  obtain ⟨y, hy⟩ : ∃ x, x = s.c.rg s.ia := ⟨_, rfl⟩
  obtain ⟨sz, hsz⟩ : ∃ v, v = accS s.io := ⟨_, rfl⟩
  rw [← hy] at HA HW ⊢
  rw [← hsz] at HO HW ⊢
  clear h hl1 hl2 hb hn hr0 hr hz hP ho g1 g2 g3 g5 hy hsz
  go_enter Tryz.func154, Tryz.ntmps154
  go_wp2_with (first
    | (go_at_call 172; refine HO.out.mono ?_; rintro e w2 ⟨rfl, v, u, A', c', hA, hS⟩)
    | (go_at_call 169; refine (HA.out _ _ hA.bx rfl rfl).mono ?_; rintro e w5 ⟨rfl, l5⟩)
    | (go_at_call 140; refine (HW.out _ _ _ _ (hA.later l5)).mono ?_; rintro e w6 ⟨rfl, a1, u1, hA6, hS6⟩))
  go_end0
  exact ⟨rfl, a1, u1, A', c', hA6, (hS.trans (St.later _ hA.lt l5)).trans hS6⟩
set_option maxRecDepth 100000 in
set_option maxHeartbeats 2000000 in
theorem swap_ok {base : Nat} {w : World} {B : Nat} {s : Sp} {A : Option Addr} {n c : Nat} {ws : List (Int × Int × Int)} {ac : List (Int × Int × Bool)} {b : Wm.Bs} (h : At base w B s A n c ws ac b) (hl1 : ac.length ≤ 800) (hl2 : ws.length ≤ 800) (hb : Wm.isBs b) (hn : n ≤ 64) (hr0 : 0 ≤ s.c.c0 ∧ s.c.c0 ≤ 4294967295) (hr : Im.Right s.ins) (hz : accS s.io = 1 ∨ accS s.io = 4) (P : Cm.Pl) (hP : Cm.place n b s.c.c0 s.c.u s.va (accA s.io) (accS s.io) = P) (ho : P.ok = true) (tab : Tab w) (h0 : 0 < base) : Calls Tryz.prog 155 #[.pointer (some ⟨B, 0, none⟩)] w fun e w' => e = .returned (.tuple #[]) ∧ ∃ v u A' c', At base w' B { (s.lay v u (.slice A' n c')) with c := s.c.putR s.ins (Mm.ld P.b P.a (accS s.io)) } A' n c' ((ws ++ P.w) ++ [(P.a, accS s.io, s.c.rg s.ia)]) (((ac ++ P.c) ++ [(P.a, accS s.io, false)]) ++ [(P.a, accS s.io, true)]) P.b ∧ St base B w s w' { (s.lay v u (.slice A' n c')) with c := s.c.putR s.ins (Mm.ld P.b P.a (accS s.io)) } := by
  have HO := Lib.hid (operand_ok h hl1 hl2 hb hn hr0 hr hz P hP ho)
  obtain ⟨g1, g2, g3, _, g5, _⟩ := Cm.place_rg n s.c.c0 s.c.u s.va (accA s.io) (accS s.io) hb hr0 s.va_rg
  rw [hP] at g1 g2 g3 g5
  have HL := Lib.hid fun w' s' A' c' (h' : At base w' B s' A' n c' (ws ++ P.w) (ac ++ P.c) P.b) => sload_any h' (by rw [List.length_append]; omega) g3 hn P.a (accS s.io) (by omega)
  have HA := Lib.hid fun w' (s' : Sp) (h' : Blk w' B 86 s'.cells) (e : s'.ins = s.ins) (e2 : s'.c = s.c) => (show Calls Tryz.prog 169 #[.pointer (some ⟨B, 0, none⟩)] w' fun e w'' => e = .returned (.int .u32 (s.c.rg s.ia)) ∧ Later w' w'' from by have q := a_at h' (e ▸ hr); rw [e2, show s'.ia = s.ia from congrArg Im.I.a e] at q; exact q)
  have HW := Lib.hid fun w' s' A' c' (h' : At base w' B s' A' n c' (ws ++ P.w) ((ac ++ P.c) ++ [(P.a, accS s.io, false)]) P.b) => sstore_any h' (by rw [List.length_append, List.length_append]; simp; omega) (by rw [List.length_append]; omega) P.a (accS s.io) (s.c.rg s.ia)
  have HP := Lib.hid fun w' (l : Below base w w') s' x A' c' (h' : At base w' B s' A' n c' ((ws ++ P.w) ++ [(P.a, accS s.io, s.c.rg s.ia)]) (((ac ++ P.c) ++ [(P.a, accS s.io, false)]) ++ [(P.a, accS s.io, true)]) P.b) (e : s'.ins = s.ins) => put_any h' (e ▸ hr) (tab.below h0 l) x
  obtain ⟨x, hx⟩ : ∃ x, x = (Mm.ld P.b P.a (accS s.io)) := ⟨_, rfl⟩
  obtain ⟨sz, hsz⟩ : ∃ v, v = accS s.io := ⟨_, rfl⟩
  obtain ⟨y, hy⟩ : ∃ x, x = s.c.rg s.ia := ⟨_, rfl⟩
  rw [← hx] at HL ⊢
  rw [← hy] at HA HW HP ⊢
  rw [← hsz] at HO HL HP HW ⊢
  clear h hl1 hl2 hb hn hr0 hr hz hP ho tab h0 g1 g2 g3 g5 hx hsz hy
  go_enter Tryz.func155, Tryz.ntmps155
  go_wp2_with (first
    | (go_at_call 172; refine HO.out.mono ?_; rintro e w2 ⟨rfl, v, u, A', c', hA, hS⟩)
    | (go_at_call 117; refine (HL.out _ _ _ _ hA).mono ?_; rintro e w3 ⟨rfl, v3, hA3, hS3⟩; replace hS3 := hS.trans hS3)
    | (go_at_call 169; refine (HA.out _ _ hA3.bx rfl rfl).mono ?_; rintro e w5 ⟨rfl, l5⟩)
    | (go_at_call 140; refine (HW.out _ _ _ _ (hA3.later l5)).mono ?_; rintro e w6 ⟨rfl, a1, u1, hA6, hS6⟩; replace hS6 := (hS3.trans (St.later _ hA3.lt l5)).trans hS6)
    | (go_at_call 142; refine (HP.out _ hS6.lt _ _ _ _ hA6 rfl).mono ?_; rintro e w7 ⟨rfl, hA7, hS7⟩))
  go_end0
  exact ⟨rfl, a1, u1, A', c', hA7, hS6.trans hS7⟩
end Go.Proofs.YtidhodalnikhlaaGreatDoor
