/- The exact law of PlacesOf: its walk out of the contracts of the model and of the program. -/
import Derived.Test.YtmlmllhcoobijabPlO
import Derived.Test.YtmlmllhcoobijabIntX
import Derived.Test.YtmlmllhcoobijabXH
import Derived.Test.YtmlmllhcoobijabXFit
namespace Go.Proofs.Ytmlmllhcoobijab
set_option maxRecDepth 100000
open Go.ChangeShapes Go.WideShapes Go.ChangeAt Go.RowKit G00541
/-- function f answers V and ok, in memory of its own -/
def TellsPlacesOf (f : Nat) (l0 : List Sx) (V : List Int) (ok : Bool) : Prop := ∀ (q0 : Option Addr) (d0 : Nat) (v : World), Xs v.heap.size q0 l0 v → 
  Calls Try.prog f #[.slice q0 l0.length d0] v fun e w' => ∃ b c, e = .returned (.tuple #[.slice b V.length c, .bool ok]) ∧ OwnI v.heap.size w'.heap.size b V w' ∧ Below v.heap.size v w'
set_option maxHeartbeats 8000000 in
theorem law_PlacesOf (a : Option Addr) (cap0 : Nat) (l0 : List Sx) (w : World) (hl0 : l0.length ≤ 9223372036854775807) (hZ0 : Xs w.heap.size a l0 w)
    (H : l0.length ≤ 1048576 → ∃ (V : List Int) (ok : Bool), V.length ≤ 1048576 ∧ TellsPlacesOf 6 l0  V ok ∧ TellsPlacesOf 8 l0  V ok) :
    Calls Try.prog 3 #[.slice a l0.length cap0] w fun e w' => e = .returned (.bool true) ∧ Below w.heap.size w w' := by
  have HH : Hid (l0.length ≤ 1048576 → ∃ (V : List Int) (ok : Bool), V.length ≤ 1048576 ∧ TellsPlacesOf 6 l0  V ok ∧ TellsPlacesOf 8 l0  V ok) := H
  obtain ⟨w0, hw0⟩ : ∃ w0, w0 = w := ⟨_, rfl⟩
  have HB0 : Hid (Below w.heap.size w w0) := by show Below w.heap.size w w0; rw [hw0]; exact Below.refl _ _
  have HZ0 : Hid (∀ v, Below w0.heap.size w0 v → Xs v.heap.size a l0 v) := fun v g => (hZ0.below (HB0.out.trans (g.mono HB0.out.size))).mono (HB0.out.trans (g.mono HB0.out.size)).size
  have W0 : Hid (w0 = w) := hw0
  clear hZ0 H hw0
  go_enter Try.func3, Try.ntmps3
  go_wp2_with fail
  refine (szStretchS_any a cap0 l0.length 1048576 _ (by omega) (by omega) hl0).mono ?_
  rintro e wz ⟨⟨r0, rfl, hr01, hr0⟩, hwz⟩
  rw [hwz]
  clear hwz wz
  by_cases p0 : 0 ≤ r0
  case neg =>
    have hd0 : decide (r0 < 0) = true := by simp; omega
    clear hr0
    go_wp2
    go_ret
    exact ⟨rfl, Below.refl _ _⟩
  have hd0 : decide (r0 < 0) = false := by simp; omega
  have hn0 := hr0 p0
  clear hr0
  go_wp2_with fail
  obtain ⟨V, ok, hV, h9, h11⟩ := HH.out hn0
  have H9 : Hid (TellsPlacesOf 6 l0  V ok) := h9
  have H11 : Hid (TellsPlacesOf 8 l0  V ok) := h11
  clear h9 h11 HH
  obtain rfl : w0 = w := W0.out
  have B0 : Hid (Below w0.heap.size w0 w0) := Below.refl _ _
  refine (to_ownX a cap0 l0 _ hn0 (HZ0.out _ B0.out)).mono ?_
  rintro e w1 ⟨b1, c1, rfl, o1, g1⟩
  have s_w1 := g1.size
  have B_w1 : Hid (Below w0.heap.size w0 w1) := B0.out.trans (g1.mono B0.out.size)
  have HT0_w1 : Hid (OwnX w0.heap.size w1.heap.size b1 l0 w1) := o1
  clear B0 o1 g1
  go_wp2_with fail
  refine (H9.out b1 c1 _ HT0_w1.out.xs).mono ?_
  rintro e w2 ⟨b2, c2, rfl, o2, g2⟩
  have s_w2 := g2.size
  have B_w2 : Hid (Below w0.heap.size w0 w2) := B_w1.out.trans (g2.mono B_w1.out.size)
  have HT0_w2 : Hid (OwnX w0.heap.size w1.heap.size b1 l0 w2) := HT0_w1.out.below g2
  have HW_w2 : Hid (OwnI w1.heap.size w2.heap.size b2 V w2) := o2
  clear B_w1 HT0_w1 o2 g2
  clear HT0_w2 H9
  go_wp2_with fail
  refine (to_ownX a cap0 l0 _ hn0 (HZ0.out _ B_w2.out)).mono ?_
  rintro e w3 ⟨b3, c3, rfl, o3, g3⟩
  have s_w3 := g3.size
  have B_w3 : Hid (Below w0.heap.size w0 w3) := B_w2.out.trans (g3.mono B_w2.out.size)
  have HW_w3 : Hid (OwnI w1.heap.size w2.heap.size b2 V w3) := HW_w2.out.below g3
  have HA0_w3 : Hid (OwnX w2.heap.size w3.heap.size b3 l0 w3) := o3
  clear B_w2 HW_w2 o3 g3
  go_wp2_with fail
  refine (H11.out b3 c3 _ HA0_w3.out.xs).mono ?_
  rintro e w4 ⟨b4, c4, rfl, o4, g4⟩
  have s_w4 := g4.size
  have B_w4 : Hid (Below w0.heap.size w0 w4) := B_w3.out.trans (g4.mono B_w3.out.size)
  have HW_w4 : Hid (OwnI w1.heap.size w2.heap.size b2 V w4) := HW_w3.out.below g4
  have HA0_w4 : Hid (OwnX w2.heap.size w3.heap.size b3 l0 w4) := HA0_w3.out.below g4
  have HG_w4 : Hid (OwnI w3.heap.size w4.heap.size b4 V w4) := o4
  clear B_w3 HW_w3 HA0_w3 o4 g4
  go_wp2_with fail
  refine (eqIntS_same b4 b2 c4 c2 V _ hV HG_w4.out.is HW_w4.out.is).mono ?_
  rintro e w5 ⟨rfl, g5⟩
  have s_w5 := g5.size
  have B_w5 : Hid (Below w0.heap.size w0 w5) := B_w4.out.trans (g5.mono B_w4.out.size)
  have HW_w5 : Hid (OwnI w1.heap.size w2.heap.size b2 V w5) := HW_w4.out.below g5
  have HA0_w5 : Hid (OwnX w2.heap.size w3.heap.size b3 l0 w5) := HA0_w4.out.below g5
  have HG_w5 : Hid (OwnI w3.heap.size w4.heap.size b4 V w5) := HG_w4.out.below g5
  clear B_w4 HW_w4 HA0_w4 HG_w4 g5
  go_wp2_with fail
  refine (to_ownX a cap0 l0 _ hn0 (HZ0.out _ B_w5.out)).mono ?_
  rintro e w6 ⟨b6, c6, rfl, o6, g6⟩
  have s_w6 := g6.size
  have B_w6 : Hid (Below w0.heap.size w0 w6) := B_w5.out.trans (g6.mono B_w5.out.size)
  have HW_w6 : Hid (OwnI w1.heap.size w2.heap.size b2 V w6) := HW_w5.out.below g6
  have HA0_w6 : Hid (OwnX w2.heap.size w3.heap.size b3 l0 w6) := HA0_w5.out.below g6
  have HG_w6 : Hid (OwnI w3.heap.size w4.heap.size b4 V w6) := HG_w5.out.below g6
  have HY_w6 : Hid (OwnX w5.heap.size w6.heap.size b6 l0 w6) := o6
  clear B_w5 HW_w5 HA0_w5 HG_w5 o6 g6
  go_wp2_with fail
  refine (eqStretchS_same b3 b6 c3 c6 l0 _ hn0 HA0_w6.out.xs HY_w6.out.xs).mono ?_
  rintro e w7 ⟨rfl, g7⟩
  have s_w7 := g7.size
  have B_w7 : Hid (Below w0.heap.size w0 w7) := B_w6.out.trans (g7.mono B_w6.out.size)
  have HW_w7 : Hid (OwnI w1.heap.size w2.heap.size b2 V w7) := HW_w6.out.below g7
  have HA0_w7 : Hid (OwnX w2.heap.size w3.heap.size b3 l0 w7) := HA0_w6.out.below g7
  have HG_w7 : Hid (OwnI w3.heap.size w4.heap.size b4 V w7) := HG_w6.out.below g7
  clear B_w6 HW_w6 HA0_w6 HG_w6 HY_w6 g7
  have hk0 : decide (((1 + 3 * l0.length : Nat) : Int) < 0) = false := decide_eq_false (by omega)
  have hm0 : 1 ≤ 1 + 3 * l0.length ∧ 1 + 3 * l0.length ≤ 3145730 := by omega
  go_wp2_with fail
  refine (mark_ownX _ _ b3 c3 l0 _ hn0 1 (by omega) (by omega) HA0_w7.out).mono ?_
  rintro e w8 ⟨rfl, o8, t8⟩
  have s_w8 := t8.size
  have B_w8 : Hid (Below w0.heap.size w0 w8) := B_w7.out.trans (t8.below (by omega) B_w7.out.size)
  have HW_w8 : Hid (OwnI w1.heap.size w2.heap.size b2 V w8) := HW_w7.out.out t8 (by omega)
  have HG_w8 : Hid (OwnI w3.heap.size w4.heap.size b4 V w8) := HG_w7.out.out t8 (by omega)
  clear B_w7 HW_w7 HA0_w7 HG_w7 o8 t8
  generalize 1 + 3 * l0.length = m0 at *
  go_wp2_with fail
  refine (eqIntS_same b4 b2 c4 c2 V _ hV HG_w8.out.is HW_w8.out.is).mono ?_
  rintro e w9 ⟨rfl, g9⟩
  have s_w9 := g9.size
  have B_w9 : Hid (Below w0.heap.size w0 w9) := B_w8.out.trans (g9.mono B_w8.out.size)
  have HW_w9 : Hid (OwnI w1.heap.size w2.heap.size b2 V w9) := HW_w8.out.below g9
  have HG_w9 : Hid (OwnI w3.heap.size w4.heap.size b4 V w9) := HG_w8.out.below g9
  clear B_w8 HW_w8 HG_w8 g9
  go_wp2_with fail
  refine (mark_ownI _ _ b4 c4 V _ hV 1 (by omega) (by omega) HG_w9.out).mono ?_
  rintro e w10 ⟨rfl, o10, t10⟩
  have s_w10 := t10.size
  have B_w10 : Hid (Below w0.heap.size w0 w10) := B_w9.out.trans (t10.below (by omega) B_w9.out.size)
  have HW_w10 : Hid (OwnI w1.heap.size w2.heap.size b2 V w10) := HW_w9.out.out t10 (by omega)
  have HGm_w10 : Hid (OwnI w3.heap.size w4.heap.size b4 (imarks V.length 1) w10) := o10
  clear B_w9 HW_w9 HG_w9 o10 t10
  have hm : decide (((1 + V.length : Nat) : Int) < 0) = false := decide_eq_false (by omega)
  go_wp2_with fail
  refine (held_ownI _ _ b4 c4 V.length _ hV HGm_w10.out).mono ?_
  rintro e w11 ⟨rfl, g11⟩
  have s_w11 := g11.size
  have B_w11 : Hid (Below w0.heap.size w0 w11) := B_w10.out.trans (g11.mono B_w10.out.size)
  have HW_w11 : Hid (OwnI w1.heap.size w2.heap.size b2 V w11) := HW_w10.out.below g11
  have HGm_w11 : Hid (OwnI w3.heap.size w4.heap.size b4 (imarks V.length 1) w11) := HGm_w10.out.below g11
  clear B_w10 HW_w10 HGm_w10 g11
  go_wp2_with fail
  refine (to_ownX a cap0 l0 _ hn0 (HZ0.out _ B_w11.out)).mono ?_
  rintro e w12 ⟨b12, c12, rfl, o12, g12⟩
  have s_w12 := g12.size
  have B_w12 : Hid (Below w0.heap.size w0 w12) := B_w11.out.trans (g12.mono B_w11.out.size)
  have HW_w12 : Hid (OwnI w1.heap.size w2.heap.size b2 V w12) := HW_w11.out.below g12
  have HGm_w12 : Hid (OwnI w3.heap.size w4.heap.size b4 (imarks V.length 1) w12) := HGm_w11.out.below g12
  have HT0_w12 : Hid (OwnX w11.heap.size w12.heap.size b12 l0 w12) := o12
  clear B_w11 HW_w11 HGm_w11 o12 g12
  go_wp2_with fail
  refine (H11.out b12 c12 _ HT0_w12.out.xs).mono ?_
  rintro e w13 ⟨b13, c13, rfl, o13, g13⟩
  have s_w13 := g13.size
  have B_w13 : Hid (Below w0.heap.size w0 w13) := B_w12.out.trans (g13.mono B_w12.out.size)
  have HW_w13 : Hid (OwnI w1.heap.size w2.heap.size b2 V w13) := HW_w12.out.below g13
  have HGm_w13 : Hid (OwnI w3.heap.size w4.heap.size b4 (imarks V.length 1) w13) := HGm_w12.out.below g13
  have HT0_w13 : Hid (OwnX w11.heap.size w12.heap.size b12 l0 w13) := HT0_w12.out.below g13
  have HH2_w13 : Hid (OwnI w12.heap.size w13.heap.size b13 V w13) := o13
  clear B_w12 HW_w12 HGm_w12 HT0_w12 o13 g13
  go_wp2_with fail
  refine (eqIntS_same b13 b2 c13 c2 V _ hV HH2_w13.out.is HW_w13.out.is).mono ?_
  rintro e w14 ⟨rfl, g14⟩
  have s_w14 := g14.size
  have B_w14 : Hid (Below w0.heap.size w0 w14) := B_w13.out.trans (g14.mono B_w13.out.size)
  have HW_w14 : Hid (OwnI w1.heap.size w2.heap.size b2 V w14) := HW_w13.out.below g14
  have HGm_w14 : Hid (OwnI w3.heap.size w4.heap.size b4 (imarks V.length 1) w14) := HGm_w13.out.below g14
  have HT0_w14 : Hid (OwnX w11.heap.size w12.heap.size b12 l0 w14) := HT0_w13.out.below g14
  have HH2_w14 : Hid (OwnI w12.heap.size w13.heap.size b13 V w14) := HH2_w13.out.below g14
  clear B_w13 HW_w13 HGm_w13 HT0_w13 HH2_w13 g14
  go_wp2_with fail
  refine (held_ownI _ _ b4 c4 V.length _ hV HGm_w14.out).mono ?_
  rintro e w15 ⟨rfl, g15⟩
  have s_w15 := g15.size
  have B_w15 : Hid (Below w0.heap.size w0 w15) := B_w14.out.trans (g15.mono B_w14.out.size)
  have HW_w15 : Hid (OwnI w1.heap.size w2.heap.size b2 V w15) := HW_w14.out.below g15
  have HGm_w15 : Hid (OwnI w3.heap.size w4.heap.size b4 (imarks V.length 1) w15) := HGm_w14.out.below g15
  have HT0_w15 : Hid (OwnX w11.heap.size w12.heap.size b12 l0 w15) := HT0_w14.out.below g15
  have HH2_w15 : Hid (OwnI w12.heap.size w13.heap.size b13 V w15) := HH2_w14.out.below g15
  clear B_w14 HW_w14 HGm_w14 HT0_w14 HH2_w14 g15
  go_wp2
  go_ret
  exact ⟨rfl, B_w15.out⟩
theorem walk_PlacesOf (a : Option Addr) (cap : Nat) (l : List Sx) (w : World) (hf : FitM l) (hl : l.length ≤ 9223372036854775807) (hZ : Xs w.heap.size a l w) :
    Calls Try.prog 3 #[.slice a l.length cap] w fun e w' => e = .returned (.bool true) ∧ Below w.heap.size w w' := by
  refine law_PlacesOf a cap l w hl hZ fun hn => ?_
  cases hg : goodM l
  · refine ⟨[], false, by decide, fun q d v hv => ?_, fun q d v hv => ?_⟩
    · refine (splaces_any q d l v hn hv).mono ?_
      rintro e w' (⟨h, _⟩ | ⟨_, h⟩)
      · rw [hg] at h; cases h
      · exact h
    · refine (iplaces_any q d l v hn hf hv).mono ?_
      rintro e w' (⟨h, _⟩ | ⟨_, h⟩)
      · rw [hg] at h; cases h
      · exact h
  · refine ⟨tab (plN l), true, by rw [tab_len]; decide, fun q d v hv => ?_, fun q d v hv => ?_⟩
    · refine (splaces_any q d l v hn hv).mono ?_
      rintro e w' (⟨_, h⟩ | ⟨h, _⟩)
      · exact h
      · rw [hg] at h; cases h
    · refine (iplaces_any q d l v hn hf hv).mono ?_
      rintro e w' (⟨_, h⟩ | ⟨h, _⟩)
      · exact h
      · rw [hg] at h; cases h
end Go.Proofs.Ytmlmllhcoobijab
