/-
  THE WALK OF the statements' sanity check: the document's examples.
-/
import Derived.Test.YtaihfkcoiagdaaaMemM
namespace Go.Proofs.Ytaihfkcoiagdaaa
open Go.RowKit Go.ChangeShapes Go.WideShapes Go.ChangeAt

def mem1 : Wm.Bs := Mm.st (Zs 2) 128 4 287454020
def mem2 : Wm.Bs := Mm.st mem1 129 1 511
theorem e_1 : Mm.ld mem1 128 4 = 287454020 := by decide +kernel
theorem e_2 : Mm.ld mem1 128 1 = 68 := by decide +kernel
theorem e_3 : Mm.ld mem1 131 1 = 17 := by decide +kernel
theorem e_4 : Mm.ld mem1 130 4 = 0 := by decide +kernel
theorem e_5 : Mm.ld mem1 256 1 = 0 := by decide +kernel
theorem e_6 : Mm.ld mem1 0 2 = 0 := by decide +kernel
theorem e_7 : Mm.ld mem2 128 4 = 287506244 := by decide +kernel
theorem e_8 : strOfNums (Mm.rd mem1 127 3) = ⟨#[0, 68, 51]⟩ := by decide +kernel
theorem e_9 : Mm.diff (Zs 2) mem1 2 2 = [1] := by decide +kernel
theorem mem1_bs : Wm.isBs mem1 := Mm.st_bs (Zs_bs 2) _ _ _
theorem mem2_bs : Wm.isBs mem2 := Mm.st_bs mem1_bs _ _ _
theorem k_load {m : Wm.Bs} (hm : Wm.isBs m) (a s v : Int) (q : Bool) (ha : -9223372036854775808 ≤ a ∧ a ≤ 9223372036854775807) (e1 : Mm.ld m a s = v) (e2 : decide (Mm.There 256 a s) = q) (g c : Nat) (w : World) (hd : Draft w g 2 m) :
    Calls Try.prog 12 #[.agg #[.slice (some ⟨g, 0, none⟩) 2 c], .int .i64 a, .int .i64 s] w fun e w' => e = .returned (.tuple #[.int .u32 v, .bool q]) ∧ Later w w' := by
  have h := load_any (some ⟨g, 0, none⟩) 2 c a s m w hd.sl hm (by omega) (by omega) ha
  rw [e1, show 2 * 128 = 256 from rfl, e2] at h
  exact h
theorem k_store {m : Wm.Bs} (hm : Wm.isBs m) (a s v : Int) (hw : isW (a, s, v)) (e2 : decide (Mm.There 256 a s) = true) (g c : Nat) (w : World) (hd : Draft w g 2 m) :
    Calls Try.prog 13 #[.agg #[.slice (some ⟨g, 0, none⟩) 2 c], .agg #[.int .i64 a, .int .i64 s, .int .u32 v]] w (GotMB 2 (Mm.st m a s v) true w) := by
  have h := pstore_any (some ⟨g, 0, none⟩) 2 c a s v m w hd.sl hm (by omega) (by omega) hw
  rw [show 2 * 128 = 256 from rfl, e2] at h
  exact h
theorem sl_one {w : World} {B : Nat} {t : TypeId} (h : Blk w B t [.int .i64 1]) : Sl w 1 (some ⟨B, 0, none⟩) 1 (Ni [1]) := by
  refine ⟨rfl, fun _ => ⟨_, rfl, h.lt, fun j u hu => ?_⟩⟩
  rw [Addr.add_mid, Nat.zero_add]
  exact h.cell hu
set_option maxRecDepth 100000 in
set_option maxHeartbeats 4000000 in
theorem sanity_any (w : World) : Calls Try.prog 9 #[] w fun e w' => e = .returned (.bool true) ∧ Later w w' := by
  obtain ⟨z, hz⟩ : ∃ z, z = Zs 2 := ⟨_, rfl⟩
  obtain ⟨m, hm⟩ : ∃ m, m = mem1 := ⟨_, rfl⟩
  obtain ⟨n, hn⟩ : ∃ n, n = mem2 := ⟨_, rfl⟩
  have K0 := Lib.hid fun w' => new_ok 2 w' (by omega)
  have KS := Lib.hid fun g c w' (hd : Draft w' g 2 z) => (k_store (m := z) (by rw [hz]; exact Zs_bs 2) 128 4 287454020 (by simp only [isW]; omega) (by decide +kernel) g c w' hd)
  have KT := Lib.hid fun g c w' (hd : Draft w' g 2 m) => (k_store (m := m) (by rw [hm]; exact mem1_bs) 129 1 511 (by simp only [isW]; omega) (by decide +kernel) g c w' hd)
  have K1 := Lib.hid fun g c w' (hd : Draft w' g 2 m) => k_load (m := m) (by rw [hm]; exact mem1_bs) 128 4 287454020 true (by omega) (by rw [hm]; exact e_1) (by decide +kernel) g c w' hd
  have K2 := Lib.hid fun g c w' (hd : Draft w' g 2 m) => k_load (m := m) (by rw [hm]; exact mem1_bs) 128 1 68 true (by omega) (by rw [hm]; exact e_2) (by decide +kernel) g c w' hd
  have K3 := Lib.hid fun g c w' (hd : Draft w' g 2 m) => k_load (m := m) (by rw [hm]; exact mem1_bs) 131 1 17 true (by omega) (by rw [hm]; exact e_3) (by decide +kernel) g c w' hd
  have K4 := Lib.hid fun g c w' (hd : Draft w' g 2 m) => k_load (m := m) (by rw [hm]; exact mem1_bs) 130 4 0 false (by omega) (by rw [hm]; exact e_4) (by decide +kernel) g c w' hd
  have K5 := Lib.hid fun g c w' (hd : Draft w' g 2 m) => k_load (m := m) (by rw [hm]; exact mem1_bs) 256 1 0 false (by omega) (by rw [hm]; exact e_5) (by decide +kernel) g c w' hd
  have K6 := Lib.hid fun g c w' (hd : Draft w' g 2 m) => k_load (m := m) (by rw [hm]; exact mem1_bs) 0 2 0 false (by omega) (by rw [hm]; exact e_6) (by decide +kernel) g c w' hd
  have K7 := Lib.hid fun g c w' (hd : Draft w' g 2 n) => k_load (m := n) (by rw [hn]; exact mem2_bs) 128 4 287506244 true (by omega) (by rw [hn]; exact e_7) (by decide +kernel) g c w' hd
  have K8 := Lib.hid fun g c w' (hd : Draft w' g 2 m) => (show Calls Try.prog 20 #[.agg #[.slice (some ⟨g, 0, none⟩) 2 c], .int .i64 127, .int .i64 3] w' fun e w'' => e = .returned (.tuple #[.string ⟨#[0, 68, 51]⟩, .bool true]) ∧ Later w' w'' by
    have h := read_any (some ⟨g, 0, none⟩) 2 c 127 3 m w' hd.sl (by omega) (by omega) (by omega)
    rw [hm, e_8, show decide (Mm.Inside (2 * 128) 127 3) = true by decide +kernel] at h
    exact h)
  have K9 := Lib.hid fun g0 c0 g c w' (h0 : Draft w' g0 2 z) (hd : Draft w' g 2 m) => (show Calls Try.prog 28 #[.agg #[.slice (some ⟨g0, 0, none⟩) 2 c0], .agg #[.slice (some ⟨g, 0, none⟩) 2 c]] w' (GotI [1] w') by
    have h := diff_any (some ⟨g0, 0, none⟩) 2 c0 (some ⟨g, 0, none⟩) 2 c z m w' h0.sl hd.sl (by omega) (by omega)
    rw [hz, hm, e_9] at h
    exact h)
  have KI := Lib.hid fun A c B w' (h1 : Sl w' 1 A 1 (Ni [1])) (h2 : Sl w' 1 (some ⟨B, 0, none⟩) 1 (Ni [1])) => sameInts_any A 1 c (some ⟨B, 0, none⟩) 1 1 [1] [1] w' rfl rfl h1 h2 (by omega) (by omega)
  have KV := Lib.hid fun g c w' => valid_any (some ⟨g, 0, none⟩) 2 c w'
  have KZ := Lib.hid fun g c w' => size_any (some ⟨g, 0, none⟩) 2 c w' (by omega)
  rw [← hz] at K0
  rw [show Mm.st z 128 4 287454020 = m by rw [hz, hm]; rfl] at KS
  rw [show Mm.st m 129 1 511 = n by rw [hm, hn]; rfl] at KT
  rw [show decide (([1] : List Nat) = [1]) = true from rfl] at KI
  rw [show decide (1 ≤ 2 ∧ 2 ≤ 64) = true from rfl] at KV
  rw [show (((2 * 128 : Nat) : Int)) = 256 from rfl] at KZ
  rw [show ((2 : Nat) : Int) = 2 from rfl] at K0
  clear hz hm hn
  go_enter Try.func9, Try.ntmps9
  go_wp2_with (first
    | (go_at_call 19; refine (K0.out _).mono ?_; rintro e w0 ⟨g0, rfl, h0, d0, l0⟩; have b1 := Blk.new w0 24 #[.slice (some ⟨g0, 0, none⟩) 2 2] [.slice (some ⟨g0, 0, none⟩) 2 2] rfl; replace d0 := d0.keep (later1 w0 (.cells #[.slice (some ⟨g0, 0, none⟩) 2 2] 24)); have lw := Later.trans_ l0 (later1 w0 (.cells #[.slice (some ⟨g0, 0, none⟩) 2 2] 24)))
    | (go_at_call 13; (with_reducible refine (KS.out _ _ _ d0).mono ?_); rintro e w1 ⟨gm, cm, rfl, _, _, _, dm, l1⟩; replace b1 := (b1.keep l1).alloc (.cells #[.slice (some ⟨gm, 0, none⟩) 2 cm] 24); replace d0 := (d0.keep l1).keep (later1 w1 (.cells #[.slice (some ⟨gm, 0, none⟩) 2 cm] 24)); replace dm := dm.keep (later1 w1 (.cells #[.slice (some ⟨gm, 0, none⟩) 2 cm] 24)); have b3 := Blk.new w1 24 #[.slice (some ⟨gm, 0, none⟩) 2 cm] [.slice (some ⟨gm, 0, none⟩) 2 cm] rfl; replace lw := Later.trans_ (Later.trans_ lw l1) (later1 w1 (.cells #[.slice (some ⟨gm, 0, none⟩) 2 cm] 24)); have c3 := b3.cell (j := 0) (v := .slice (some ⟨gm, 0, none⟩) 2 cm) rfl)
    | (go_at_call 12; (with_reducible refine (K1.out _ _ _ dm).mono ?_); rintro e v11 ⟨rfl, l11⟩; replace b1 := b1.keep l11; replace b3 := b3.keep l11; replace d0 := d0.keep l11; replace dm := dm.keep l11; replace lw := Later.trans_ lw l11; clear c3; have c3 := b3.cell (j := 0) (v := .slice (some ⟨gm, 0, none⟩) 2 cm) rfl)
    | (go_at_call 12; (with_reducible refine (K2.out _ _ _ dm).mono ?_); rintro e v12 ⟨rfl, l12⟩; replace b1 := b1.keep l12; replace b3 := b3.keep l12; replace d0 := d0.keep l12; replace dm := dm.keep l12; replace lw := Later.trans_ lw l12; clear c3; have c3 := b3.cell (j := 0) (v := .slice (some ⟨gm, 0, none⟩) 2 cm) rfl)
    | (go_at_call 12; (with_reducible refine (K3.out _ _ _ dm).mono ?_); rintro e v13 ⟨rfl, l13⟩; replace b1 := b1.keep l13; replace b3 := b3.keep l13; replace d0 := d0.keep l13; replace dm := dm.keep l13; replace lw := Later.trans_ lw l13; clear c3; have c3 := b3.cell (j := 0) (v := .slice (some ⟨gm, 0, none⟩) 2 cm) rfl)
    | (go_at_call 12; (with_reducible refine (K4.out _ _ _ dm).mono ?_); rintro e v14 ⟨rfl, l14⟩; replace b1 := b1.keep l14; replace b3 := b3.keep l14; replace d0 := d0.keep l14; replace dm := dm.keep l14; replace lw := Later.trans_ lw l14; clear c3; have c3 := b3.cell (j := 0) (v := .slice (some ⟨gm, 0, none⟩) 2 cm) rfl)
    | (go_at_call 12; (with_reducible refine (K5.out _ _ _ dm).mono ?_); rintro e v15 ⟨rfl, l15⟩; replace b1 := b1.keep l15; replace b3 := b3.keep l15; replace d0 := d0.keep l15; replace dm := dm.keep l15; replace lw := Later.trans_ lw l15; clear c3; have c3 := b3.cell (j := 0) (v := .slice (some ⟨gm, 0, none⟩) 2 cm) rfl)
    | (go_at_call 12; (with_reducible refine (K6.out _ _ _ dm).mono ?_); rintro e v16 ⟨rfl, l16⟩; replace b1 := b1.keep l16; replace b3 := b3.keep l16; replace d0 := d0.keep l16; replace dm := dm.keep l16; replace lw := Later.trans_ lw l16; clear c3; have c3 := b3.cell (j := 0) (v := .slice (some ⟨gm, 0, none⟩) 2 cm) rfl)
    | (go_at_call 13; (with_reducible refine (KT.out _ _ _ dm).mono ?_); rintro e w2 ⟨gn, cn, rfl, _, _, _, dn, l2⟩; replace b1 := (b1.keep l2).alloc (.cells #[.slice (some ⟨gn, 0, none⟩) 2 cn] 24); replace b3 := (b3.keep l2).alloc (.cells #[.slice (some ⟨gn, 0, none⟩) 2 cn] 24); replace d0 := (d0.keep l2).keep (later1 w2 (.cells #[.slice (some ⟨gn, 0, none⟩) 2 cn] 24)); replace dm := (dm.keep l2).keep (later1 w2 (.cells #[.slice (some ⟨gn, 0, none⟩) 2 cn] 24)); replace dn := dn.keep (later1 w2 (.cells #[.slice (some ⟨gn, 0, none⟩) 2 cn] 24)); replace lw := Later.trans_ (Later.trans_ lw l2) (later1 w2 (.cells #[.slice (some ⟨gn, 0, none⟩) 2 cn] 24)); clear c3; have c3 := b3.cell (j := 0) (v := .slice (some ⟨gm, 0, none⟩) 2 cm) rfl)
    | (go_at_call 12; (with_reducible refine (K7.out _ _ _ dn).mono ?_); rintro e v17 ⟨rfl, l17⟩; replace b1 := b1.keep l17; replace b3 := b3.keep l17; replace d0 := d0.keep l17; replace dm := dm.keep l17; replace lw := Later.trans_ lw l17; clear c3; have c3 := b3.cell (j := 0) (v := .slice (some ⟨gm, 0, none⟩) 2 cm) rfl)
    | (go_at_call 20; (with_reducible refine (K8.out _ _ _ dm).mono ?_); rintro e v18 ⟨rfl, l18⟩; replace b1 := b1.keep l18; replace b3 := b3.keep l18; replace d0 := d0.keep l18; replace dm := dm.keep l18; replace lw := Later.trans_ lw l18; clear c3; have c3 := b3.cell (j := 0) (v := .slice (some ⟨gm, 0, none⟩) 2 cm) rfl; have c1 := b1.cell (j := 0) (v := .slice (some ⟨g0, 0, none⟩) 2 2) rfl)
    | (go_at_call 28; (with_reducible refine (K9.out _ _ _ _ _ d0 dm).mono ?_); rintro e v19 ⟨AD, cD, rfl, _, _, sD, l19⟩; clear c1; replace b1 := b1.keep l19; replace b3 := b3.keep l19; replace d0 := d0.keep l19; replace dm := dm.keep l19; replace lw := Later.trans_ lw l19; clear c3; have c3 := b3.cell (j := 0) (v := .slice (some ⟨gm, 0, none⟩) 2 cm) rfl; have lI := later1 v19 (.cells #[.int .i64 1] 3); have bI := Blk.new v19 3 #[.int .i64 1] [.int .i64 1] rfl; replace sD := sD.keep lI; replace b1 := b1.keep lI; replace b3 := b3.keep lI; replace d0 := d0.keep lI; replace dm := dm.keep lI; replace lw := Later.trans_ lw lI; clear c3; have c3 := b3.cell (j := 0) (v := .slice (some ⟨gm, 0, none⟩) 2 cm) rfl)
    | (go_at_call 27; refine (KI.out AD cD _ _ sD (sl_one bI)).mono ?_; rintro e v20 ⟨rfl, l20⟩; replace b1 := b1.keep l20; replace b3 := b3.keep l20; replace d0 := d0.keep l20; replace dm := dm.keep l20; replace lw := Later.trans_ lw l20; clear c3; have c3 := b3.cell (j := 0) (v := .slice (some ⟨gm, 0, none⟩) 2 cm) rfl)
    | (go_at_call 10; refine (KV.out _ _ _).mono ?_; rintro e v21 ⟨rfl, l21⟩; replace b1 := b1.keep l21; replace b3 := b3.keep l21; replace d0 := d0.keep l21; replace dm := dm.keep l21; replace lw := Later.trans_ lw l21; clear c3; have c3 := b3.cell (j := 0) (v := .slice (some ⟨gm, 0, none⟩) 2 cm) rfl)
    | (go_at_call 16; refine (KZ.out _ _ _).mono ?_; rintro e v22 ⟨rfl, l22⟩; replace b1 := b1.keep l22; replace b3 := b3.keep l22; replace d0 := d0.keep l22; replace dm := dm.keep l22; replace lw := Later.trans_ lw l22; clear c3; have c3 := b3.cell (j := 0) (v := .slice (some ⟨gm, 0, none⟩) 2 cm) rfl))
  go_ret
  exact ⟨rfl, lw⟩
end Go.Proofs.Ytaihfkcoiagdaaa
