/- The exact law of UnlikeMaps: its walk out of the contracts of the model and of the program. -/
import Derived.Test.YtmlmllhcoobijaaUnlS
import Derived.Test.YtmlmllhcoobijaaUnlI
import Derived.Test.YtmlmllhcoobijaaIntX
import Derived.Test.YtmlmllhcoobijaaXH
import Derived.Test.YtmlmllhcoobijaaXFit
namespace Go.Proofs.Ytmlmllhcoobijaa
set_option maxRecDepth 100000
open Go.ChangeShapes Go.WideShapes Go.ChangeAt Go.RowKit G00541
/-- function f answers V and ok, in memory of its own -/
def TellsUnlikeMaps (f : Nat) (l0 : List Sx) (l1 : List Sx) (V : List Int) (ok : Bool) : Prop := ∀ (q0 : Option Addr) (d0 : Nat) (q1 : Option Addr) (d1 : Nat) (v : World), Xs v.heap.size q0 l0 v → Xs v.heap.size q1 l1 v → 
  Calls Try.prog f #[.slice q0 l0.length d0, .slice q1 l1.length d1] v fun e w' => ∃ b c, e = .returned (.tuple #[.slice b V.length c, .bool ok]) ∧ OwnI v.heap.size w'.heap.size b V w' ∧ Below v.heap.size v w'
set_option maxHeartbeats 8000000 in
theorem law_UnlikeMaps (a : Option Addr) (cap0 : Nat) (l0 : List Sx) (b : Option Addr) (cap1 : Nat) (l1 : List Sx) (w : World) (hl0 : l0.length ≤ 9223372036854775807) (hZ0 : Xs w.heap.size a l0 w) (hl1 : l1.length ≤ 9223372036854775807) (hZ1 : Xs w.heap.size b l1 w)
    (H : l0.length ≤ 1048576 → l1.length ≤ 1048576 → ∃ (V : List Int) (ok : Bool), V.length ≤ 1048576 ∧ TellsUnlikeMaps 23 l0 l1  V ok ∧ TellsUnlikeMaps 24 l0 l1  V ok) :
    Calls Try.prog 7 #[.slice a l0.length cap0, .slice b l1.length cap1] w fun e w' => e = .returned (.bool true) ∧ Below w.heap.size w w' := by
  have HH : Hid (l0.length ≤ 1048576 → l1.length ≤ 1048576 → ∃ (V : List Int) (ok : Bool), V.length ≤ 1048576 ∧ TellsUnlikeMaps 23 l0 l1  V ok ∧ TellsUnlikeMaps 24 l0 l1  V ok) := H
  obtain ⟨w0, hw0⟩ : ∃ w0, w0 = w := ⟨_, rfl⟩
  have HB0 : Hid (Below w.heap.size w w0) := by show Below w.heap.size w w0; rw [hw0]; exact Below.refl _ _
  have HZ0 : Hid (∀ v, Below w0.heap.size w0 v → Xs v.heap.size a l0 v) := fun v g => (hZ0.below (HB0.out.trans (g.mono HB0.out.size))).mono (HB0.out.trans (g.mono HB0.out.size)).size
  have HZ1 : Hid (∀ v, Below w0.heap.size w0 v → Xs v.heap.size b l1 v) := fun v g => (hZ1.below (HB0.out.trans (g.mono HB0.out.size))).mono (HB0.out.trans (g.mono HB0.out.size)).size
  have W0 : Hid (w0 = w) := hw0
  clear hZ0 hZ1 H hw0
  go_enter Try.func7, Try.ntmps7
  go_wp2_with fail
  refine (szStretchS_any a cap0 l0.length 1048576 _ (by omega) (by omega) hl0).mono ?_
  rintro e wz ⟨⟨r0, rfl, hr01, hr0⟩, hwz⟩
  rw [hwz]
  clear hwz wz
  by_cases p0 : 0 ≤ r0
  case neg =>
    have hd0 : decide (r0 < 0) = true := by simp; omega
    clear hr0
    go_wp2
    go_ret
    exact ⟨rfl, Below.refl _ _⟩
  have hd0 : decide (r0 < 0) = false := by simp; omega
  have hn0 := hr0 p0
  clear hr0
  go_wp2_with fail
  refine (szStretchS_any b cap1 l1.length r0 _ (by omega) (by omega) hl1).mono ?_
  rintro e wz ⟨⟨r1, rfl, hr11, hr1⟩, hwz⟩
  rw [hwz]
  clear hwz wz
  by_cases p1 : 0 ≤ r1
  case neg =>
    have hd1 : decide (r1 < 0) = true := by simp; omega
    clear hr1
    go_wp2
    go_ret
    exact ⟨rfl, Below.refl _ _⟩
  have hd1 : decide (r1 < 0) = false := by simp; omega
  have hn1 := hr1 p1
  clear hr1
  go_wp2_with fail
  obtain ⟨V, ok, hV, h9, h11⟩ := HH.out hn0 hn1
  have H9 : Hid (TellsUnlikeMaps 23 l0 l1  V ok) := h9
  have H11 : Hid (TellsUnlikeMaps 24 l0 l1  V ok) := h11
  clear h9 h11 HH
  obtain rfl : w0 = w := W0.out
  have B0 : Hid (Below w0.heap.size w0 w0) := Below.refl _ _
  refine (to_ownX a cap0 l0 _ hn0 (HZ0.out _ B0.out)).mono ?_
  rintro e w1 ⟨b1, c1, rfl, o1, g1⟩
  have s_w1 := g1.size
  have B_w1 : Hid (Below w0.heap.size w0 w1) := B0.out.trans (g1.mono B0.out.size)
  have HT0_w1 : Hid (OwnX w0.heap.size w1.heap.size b1 l0 w1) := o1
  clear B0 o1 g1
  go_wp2_with fail
  refine (to_ownX b cap1 l1 _ hn1 (HZ1.out _ B_w1.out)).mono ?_
  rintro e w2 ⟨b2, c2, rfl, o2, g2⟩
  have s_w2 := g2.size
  have B_w2 : Hid (Below w0.heap.size w0 w2) := B_w1.out.trans (g2.mono B_w1.out.size)
  have HT0_w2 : Hid (OwnX w0.heap.size w1.heap.size b1 l0 w2) := HT0_w1.out.below g2
  have HT1_w2 : Hid (OwnX w1.heap.size w2.heap.size b2 l1 w2) := o2
  clear B_w1 HT0_w1 o2 g2
  go_wp2_with fail
  refine (H9.out b1 c1 b2 c2 _ HT0_w2.out.xs HT1_w2.out.xs).mono ?_
  rintro e w3 ⟨b3, c3, rfl, o3, g3⟩
  have s_w3 := g3.size
  have B_w3 : Hid (Below w0.heap.size w0 w3) := B_w2.out.trans (g3.mono B_w2.out.size)
  have HT0_w3 : Hid (OwnX w0.heap.size w1.heap.size b1 l0 w3) := HT0_w2.out.below g3
  have HT1_w3 : Hid (OwnX w1.heap.size w2.heap.size b2 l1 w3) := HT1_w2.out.below g3
  have HW_w3 : Hid (OwnI w2.heap.size w3.heap.size b3 V w3) := o3
  clear B_w2 HT0_w2 HT1_w2 o3 g3
  clear HT0_w3 HT1_w3 H9
  go_wp2_with fail
  refine (to_ownX a cap0 l0 _ hn0 (HZ0.out _ B_w3.out)).mono ?_
  rintro e w4 ⟨b4, c4, rfl, o4, g4⟩
  have s_w4 := g4.size
  have B_w4 : Hid (Below w0.heap.size w0 w4) := B_w3.out.trans (g4.mono B_w3.out.size)
  have HW_w4 : Hid (OwnI w2.heap.size w3.heap.size b3 V w4) := HW_w3.out.below g4
  have HA0_w4 : Hid (OwnX w3.heap.size w4.heap.size b4 l0 w4) := o4
  clear B_w3 HW_w3 o4 g4
  go_wp2_with fail
  refine (to_ownX b cap1 l1 _ hn1 (HZ1.out _ B_w4.out)).mono ?_
  rintro e w5 ⟨b5, c5, rfl, o5, g5⟩
  have s_w5 := g5.size
  have B_w5 : Hid (Below w0.heap.size w0 w5) := B_w4.out.trans (g5.mono B_w4.out.size)
  have HW_w5 : Hid (OwnI w2.heap.size w3.heap.size b3 V w5) := HW_w4.out.below g5
  have HA0_w5 : Hid (OwnX w3.heap.size w4.heap.size b4 l0 w5) := HA0_w4.out.below g5
  have HA1_w5 : Hid (OwnX w4.heap.size w5.heap.size b5 l1 w5) := o5
  clear B_w4 HW_w4 HA0_w4 o5 g5
  go_wp2_with fail
  refine (H11.out b4 c4 b5 c5 _ HA0_w5.out.xs HA1_w5.out.xs).mono ?_
  rintro e w6 ⟨b6, c6, rfl, o6, g6⟩
  have s_w6 := g6.size
  have B_w6 : Hid (Below w0.heap.size w0 w6) := B_w5.out.trans (g6.mono B_w5.out.size)
  have HW_w6 : Hid (OwnI w2.heap.size w3.heap.size b3 V w6) := HW_w5.out.below g6
  have HA0_w6 : Hid (OwnX w3.heap.size w4.heap.size b4 l0 w6) := HA0_w5.out.below g6
  have HA1_w6 : Hid (OwnX w4.heap.size w5.heap.size b5 l1 w6) := HA1_w5.out.below g6
  have HG_w6 : Hid (OwnI w5.heap.size w6.heap.size b6 V w6) := o6
  clear B_w5 HW_w5 HA0_w5 HA1_w5 o6 g6
  go_wp2_with fail
  refine (eqIntS_same b6 b3 c6 c3 V _ hV HG_w6.out.is HW_w6.out.is).mono ?_
  rintro e w7 ⟨rfl, g7⟩
  have s_w7 := g7.size
  have B_w7 : Hid (Below w0.heap.size w0 w7) := B_w6.out.trans (g7.mono B_w6.out.size)
  have HW_w7 : Hid (OwnI w2.heap.size w3.heap.size b3 V w7) := HW_w6.out.below g7
  have HA0_w7 : Hid (OwnX w3.heap.size w4.heap.size b4 l0 w7) := HA0_w6.out.below g7
  have HA1_w7 : Hid (OwnX w4.heap.size w5.heap.size b5 l1 w7) := HA1_w6.out.below g7
  have HG_w7 : Hid (OwnI w5.heap.size w6.heap.size b6 V w7) := HG_w6.out.below g7
  clear B_w6 HW_w6 HA0_w6 HA1_w6 HG_w6 g7
  go_wp2_with fail
  refine (to_ownX a cap0 l0 _ hn0 (HZ0.out _ B_w7.out)).mono ?_
  rintro e w8 ⟨b8, c8, rfl, o8, g8⟩
  have s_w8 := g8.size
  have B_w8 : Hid (Below w0.heap.size w0 w8) := B_w7.out.trans (g8.mono B_w7.out.size)
  have HW_w8 : Hid (OwnI w2.heap.size w3.heap.size b3 V w8) := HW_w7.out.below g8
  have HA0_w8 : Hid (OwnX w3.heap.size w4.heap.size b4 l0 w8) := HA0_w7.out.below g8
  have HA1_w8 : Hid (OwnX w4.heap.size w5.heap.size b5 l1 w8) := HA1_w7.out.below g8
  have HG_w8 : Hid (OwnI w5.heap.size w6.heap.size b6 V w8) := HG_w7.out.below g8
  have HY_w8 : Hid (OwnX w7.heap.size w8.heap.size b8 l0 w8) := o8
  clear B_w7 HW_w7 HA0_w7 HA1_w7 HG_w7 o8 g8
  go_wp2_with fail
  refine (eqStretchS_same b4 b8 c4 c8 l0 _ hn0 HA0_w8.out.xs HY_w8.out.xs).mono ?_
  rintro e w9 ⟨rfl, g9⟩
  have s_w9 := g9.size
  have B_w9 : Hid (Below w0.heap.size w0 w9) := B_w8.out.trans (g9.mono B_w8.out.size)
  have HW_w9 : Hid (OwnI w2.heap.size w3.heap.size b3 V w9) := HW_w8.out.below g9
  have HA0_w9 : Hid (OwnX w3.heap.size w4.heap.size b4 l0 w9) := HA0_w8.out.below g9
  have HA1_w9 : Hid (OwnX w4.heap.size w5.heap.size b5 l1 w9) := HA1_w8.out.below g9
  have HG_w9 : Hid (OwnI w5.heap.size w6.heap.size b6 V w9) := HG_w8.out.below g9
  clear B_w8 HW_w8 HA0_w8 HA1_w8 HG_w8 HY_w8 g9
  go_wp2_with fail
  refine (to_ownX b cap1 l1 _ hn1 (HZ1.out _ B_w9.out)).mono ?_
  rintro e w10 ⟨b10, c10, rfl, o10, g10⟩
  have s_w10 := g10.size
  have B_w10 : Hid (Below w0.heap.size w0 w10) := B_w9.out.trans (g10.mono B_w9.out.size)
  have HW_w10 : Hid (OwnI w2.heap.size w3.heap.size b3 V w10) := HW_w9.out.below g10
  have HA0_w10 : Hid (OwnX w3.heap.size w4.heap.size b4 l0 w10) := HA0_w9.out.below g10
  have HA1_w10 : Hid (OwnX w4.heap.size w5.heap.size b5 l1 w10) := HA1_w9.out.below g10
  have HG_w10 : Hid (OwnI w5.heap.size w6.heap.size b6 V w10) := HG_w9.out.below g10
  have HY_w10 : Hid (OwnX w9.heap.size w10.heap.size b10 l1 w10) := o10
  clear B_w9 HW_w9 HA0_w9 HA1_w9 HG_w9 o10 g10
  go_wp2_with fail
  refine (eqStretchS_same b5 b10 c5 c10 l1 _ hn1 HA1_w10.out.xs HY_w10.out.xs).mono ?_
  rintro e w11 ⟨rfl, g11⟩
  have s_w11 := g11.size
  have B_w11 : Hid (Below w0.heap.size w0 w11) := B_w10.out.trans (g11.mono B_w10.out.size)
  have HW_w11 : Hid (OwnI w2.heap.size w3.heap.size b3 V w11) := HW_w10.out.below g11
  have HA0_w11 : Hid (OwnX w3.heap.size w4.heap.size b4 l0 w11) := HA0_w10.out.below g11
  have HA1_w11 : Hid (OwnX w4.heap.size w5.heap.size b5 l1 w11) := HA1_w10.out.below g11
  have HG_w11 : Hid (OwnI w5.heap.size w6.heap.size b6 V w11) := HG_w10.out.below g11
  clear B_w10 HW_w10 HA0_w10 HA1_w10 HG_w10 HY_w10 g11
  have hk0 : decide (((1 + 3 * l0.length : Nat) : Int) < 0) = false := decide_eq_false (by omega)
  have hm0 : 1 ≤ 1 + 3 * l0.length ∧ 1 + 3 * l0.length ≤ 3145730 := by omega
  go_wp2_with fail
  refine (mark_ownX _ _ b4 c4 l0 _ hn0 1 (by omega) (by omega) HA0_w11.out).mono ?_
  rintro e w12 ⟨rfl, o12, t12⟩
  have s_w12 := t12.size
  have B_w12 : Hid (Below w0.heap.size w0 w12) := B_w11.out.trans (t12.below (by omega) B_w11.out.size)
  have HW_w12 : Hid (OwnI w2.heap.size w3.heap.size b3 V w12) := HW_w11.out.out t12 (by omega)
  have HA1_w12 : Hid (OwnX w4.heap.size w5.heap.size b5 l1 w12) := HA1_w11.out.out t12 (by omega)
  have HG_w12 : Hid (OwnI w5.heap.size w6.heap.size b6 V w12) := HG_w11.out.out t12 (by omega)
  clear B_w11 HW_w11 HA0_w11 HA1_w11 HG_w11 o12 t12
  generalize 1 + 3 * l0.length = m0 at *
  have hk1 : decide (((m0 + 3 * l1.length : Nat) : Int) < 0) = false := decide_eq_false (by omega)
  have hm1 : 1 ≤ m0 + 3 * l1.length ∧ m0 + 3 * l1.length ≤ 6291460 := by omega
  go_wp2_with fail
  refine (mark_ownX _ _ b5 c5 l1 _ hn1 m0 (by omega) (by omega) HA1_w12.out).mono ?_
  rintro e w13 ⟨rfl, o13, t13⟩
  have s_w13 := t13.size
  have B_w13 : Hid (Below w0.heap.size w0 w13) := B_w12.out.trans (t13.below (by omega) B_w12.out.size)
  have HW_w13 : Hid (OwnI w2.heap.size w3.heap.size b3 V w13) := HW_w12.out.out t13 (by omega)
  have HG_w13 : Hid (OwnI w5.heap.size w6.heap.size b6 V w13) := HG_w12.out.out t13 (by omega)
  clear B_w12 HW_w12 HA1_w12 HG_w12 o13 t13
  generalize m0 + 3 * l1.length = m1 at *
  go_wp2_with fail
  refine (eqIntS_same b6 b3 c6 c3 V _ hV HG_w13.out.is HW_w13.out.is).mono ?_
  rintro e w14 ⟨rfl, g14⟩
  have s_w14 := g14.size
  have B_w14 : Hid (Below w0.heap.size w0 w14) := B_w13.out.trans (g14.mono B_w13.out.size)
  have HW_w14 : Hid (OwnI w2.heap.size w3.heap.size b3 V w14) := HW_w13.out.below g14
  have HG_w14 : Hid (OwnI w5.heap.size w6.heap.size b6 V w14) := HG_w13.out.below g14
  clear B_w13 HW_w13 HG_w13 g14
  go_wp2_with fail
  refine (mark_ownI _ _ b6 c6 V _ hV 1 (by omega) (by omega) HG_w14.out).mono ?_
  rintro e w15 ⟨rfl, o15, t15⟩
  have s_w15 := t15.size
  have B_w15 : Hid (Below w0.heap.size w0 w15) := B_w14.out.trans (t15.below (by omega) B_w14.out.size)
  have HW_w15 : Hid (OwnI w2.heap.size w3.heap.size b3 V w15) := HW_w14.out.out t15 (by omega)
  have HGm_w15 : Hid (OwnI w5.heap.size w6.heap.size b6 (imarks V.length 1) w15) := o15
  clear B_w14 HW_w14 HG_w14 o15 t15
  have hm : decide (((1 + V.length : Nat) : Int) < 0) = false := decide_eq_false (by omega)
  go_wp2_with fail
  refine (held_ownI _ _ b6 c6 V.length _ hV HGm_w15.out).mono ?_
  rintro e w16 ⟨rfl, g16⟩
  have s_w16 := g16.size
  have B_w16 : Hid (Below w0.heap.size w0 w16) := B_w15.out.trans (g16.mono B_w15.out.size)
  have HW_w16 : Hid (OwnI w2.heap.size w3.heap.size b3 V w16) := HW_w15.out.below g16
  have HGm_w16 : Hid (OwnI w5.heap.size w6.heap.size b6 (imarks V.length 1) w16) := HGm_w15.out.below g16
  clear B_w15 HW_w15 HGm_w15 g16
  go_wp2_with fail
  refine (to_ownX a cap0 l0 _ hn0 (HZ0.out _ B_w16.out)).mono ?_
  rintro e w17 ⟨b17, c17, rfl, o17, g17⟩
  have s_w17 := g17.size
  have B_w17 : Hid (Below w0.heap.size w0 w17) := B_w16.out.trans (g17.mono B_w16.out.size)
  have HW_w17 : Hid (OwnI w2.heap.size w3.heap.size b3 V w17) := HW_w16.out.below g17
  have HGm_w17 : Hid (OwnI w5.heap.size w6.heap.size b6 (imarks V.length 1) w17) := HGm_w16.out.below g17
  have HT0_w17 : Hid (OwnX w16.heap.size w17.heap.size b17 l0 w17) := o17
  clear B_w16 HW_w16 HGm_w16 o17 g17
  go_wp2_with fail
  refine (to_ownX b cap1 l1 _ hn1 (HZ1.out _ B_w17.out)).mono ?_
  rintro e w18 ⟨b18, c18, rfl, o18, g18⟩
  have s_w18 := g18.size
  have B_w18 : Hid (Below w0.heap.size w0 w18) := B_w17.out.trans (g18.mono B_w17.out.size)
  have HW_w18 : Hid (OwnI w2.heap.size w3.heap.size b3 V w18) := HW_w17.out.below g18
  have HGm_w18 : Hid (OwnI w5.heap.size w6.heap.size b6 (imarks V.length 1) w18) := HGm_w17.out.below g18
  have HT0_w18 : Hid (OwnX w16.heap.size w17.heap.size b17 l0 w18) := HT0_w17.out.below g18
  have HT1_w18 : Hid (OwnX w17.heap.size w18.heap.size b18 l1 w18) := o18
  clear B_w17 HW_w17 HGm_w17 HT0_w17 o18 g18
  go_wp2_with fail
  refine (H11.out b17 c17 b18 c18 _ HT0_w18.out.xs HT1_w18.out.xs).mono ?_
  rintro e w19 ⟨b19, c19, rfl, o19, g19⟩
  have s_w19 := g19.size
  have B_w19 : Hid (Below w0.heap.size w0 w19) := B_w18.out.trans (g19.mono B_w18.out.size)
  have HW_w19 : Hid (OwnI w2.heap.size w3.heap.size b3 V w19) := HW_w18.out.below g19
  have HGm_w19 : Hid (OwnI w5.heap.size w6.heap.size b6 (imarks V.length 1) w19) := HGm_w18.out.below g19
  have HT0_w19 : Hid (OwnX w16.heap.size w17.heap.size b17 l0 w19) := HT0_w18.out.below g19
  have HT1_w19 : Hid (OwnX w17.heap.size w18.heap.size b18 l1 w19) := HT1_w18.out.below g19
  have HH2_w19 : Hid (OwnI w18.heap.size w19.heap.size b19 V w19) := o19
  clear B_w18 HW_w18 HGm_w18 HT0_w18 HT1_w18 o19 g19
  go_wp2_with fail
  refine (eqIntS_same b19 b3 c19 c3 V _ hV HH2_w19.out.is HW_w19.out.is).mono ?_
  rintro e w20 ⟨rfl, g20⟩
  have s_w20 := g20.size
  have B_w20 : Hid (Below w0.heap.size w0 w20) := B_w19.out.trans (g20.mono B_w19.out.size)
  have HW_w20 : Hid (OwnI w2.heap.size w3.heap.size b3 V w20) := HW_w19.out.below g20
  have HGm_w20 : Hid (OwnI w5.heap.size w6.heap.size b6 (imarks V.length 1) w20) := HGm_w19.out.below g20
  have HT0_w20 : Hid (OwnX w16.heap.size w17.heap.size b17 l0 w20) := HT0_w19.out.below g20
  have HT1_w20 : Hid (OwnX w17.heap.size w18.heap.size b18 l1 w20) := HT1_w19.out.below g20
  have HH2_w20 : Hid (OwnI w18.heap.size w19.heap.size b19 V w20) := HH2_w19.out.below g20
  clear B_w19 HW_w19 HGm_w19 HT0_w19 HT1_w19 HH2_w19 g20
  go_wp2_with fail
  refine (held_ownI _ _ b6 c6 V.length _ hV HGm_w20.out).mono ?_
  rintro e w21 ⟨rfl, g21⟩
  have s_w21 := g21.size
  have B_w21 : Hid (Below w0.heap.size w0 w21) := B_w20.out.trans (g21.mono B_w20.out.size)
  have HW_w21 : Hid (OwnI w2.heap.size w3.heap.size b3 V w21) := HW_w20.out.below g21
  have HGm_w21 : Hid (OwnI w5.heap.size w6.heap.size b6 (imarks V.length 1) w21) := HGm_w20.out.below g21
  have HT0_w21 : Hid (OwnX w16.heap.size w17.heap.size b17 l0 w21) := HT0_w20.out.below g21
  have HT1_w21 : Hid (OwnX w17.heap.size w18.heap.size b18 l1 w21) := HT1_w20.out.below g21
  have HH2_w21 : Hid (OwnI w18.heap.size w19.heap.size b19 V w21) := HH2_w20.out.below g21
  clear B_w20 HW_w20 HGm_w20 HT0_w20 HT1_w20 HH2_w20 g21
  go_wp2
  go_ret
  exact ⟨rfl, B_w21.out⟩
theorem walk_UnlikeMaps (a : Option Addr) (cap : Nat) (l : List Sx) (b : Option Addr) (cap' : Nat) (m : List Sx) (w : World) (hf : FitM l) (hl : l.length ≤ 9223372036854775807) (hZ : Xs w.heap.size a l w) (hf' : FitM m) (hl' : m.length ≤ 9223372036854775807) (hY : Xs w.heap.size b m w) :
    Calls Try.prog 7 #[.slice a l.length cap, .slice b m.length cap'] w fun e w' => e = .returned (.bool true) ∧ Below w.heap.size w w' := by
  refine law_UnlikeMaps a cap l b cap' m w hl hZ hl' hY fun hn hm => ?_
  by_cases hg : goodM l = true ∧ goodM m = true
  · have hr := diffs_len (plN l) (plN m) 16
    exact ⟨_, true, by omega, fun q0 d0 q1 d1 v h0 h1 => sunl_yes q0 q1 d0 d1 l m v hn hm h0 h1 hg.1 hg.2, fun q0 d0 q1 d1 v h0 h1 => iunl_yes q0 q1 d0 d1 l m v hf hf' h0 h1 hg.1 hg.2⟩
  · exact ⟨[], false, by decide, fun q0 d0 q1 d1 v h0 h1 => sunl_no q0 q1 d0 d1 l m v hn hm h0 h1 hg, fun q0 d0 q1 d1 v h0 h1 => iunl_no q0 q1 d0 d1 l m v hn hm hf hf' h0 h1 hg⟩
end Go.Proofs.Ytmlmllhcoobijaa
