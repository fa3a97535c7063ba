/- The exact law of LackedBy: its walk out of the contracts of the model and of the program. -/
import Derived.Test.YtghhjjblmmhcgaaJLack
namespace Go.Proofs.Ytghhjjblmmhcgaa
set_option maxRecDepth 100000
open Go Go.ChangeShapes Go.WideShapes Go.ChangeAt Go.RowKit
set_option maxHeartbeats 8000000 in
theorem law_LackedBy (aa : Option Addr) (ca : Nat) (a : List Int) (ab : Option Addr) (cb : Nat) (b : List Int) (w : World) (hla : a.length ≤ 9223372036854775807) (hZa : Is w.heap.size aa a w) (hlb : b.length ≤ 9223372036854775807) (hZb : Is w.heap.size ab b w)
    (H : a.length ≤ 1048576 → b.length ≤ 1048576 → ∃ (V : List Int) (ok : Bool), V.length ≤ 1048576 ∧ (∀ (qa : Option Addr) (da : Nat) (qb : Option Addr) (db : Nat) (v : World), Is v.heap.size qa a v → a.length ≤ da → Is v.heap.size qb b v → b.length ≤ db → Calls Try.prog 23 #[.slice qa a.length da, .slice qb b.length db] v fun e w' => ∃ b c, e = .returned (.tuple #[.slice b V.length c, .bool ok]) ∧ OwnJ v.heap.size w'.heap.size b V w' ∧ Below v.heap.size v w') ∧ (∀ (qa : Option Addr) (da : Nat) (qb : Option Addr) (db : Nat) (v : World), Is v.heap.size qa a v → a.length ≤ da → Is v.heap.size qb b v → b.length ≤ db → Calls Try.prog 24 #[.slice qa a.length da, .slice qb b.length db] v fun e w' => ∃ b c, e = .returned (.tuple #[.slice b V.length c, .bool ok]) ∧ OwnJ v.heap.size w'.heap.size b V w' ∧ Below v.heap.size v w')) :
    Calls Try.prog 8 #[.slice aa a.length ca, .slice ab b.length cb] w fun e w' => e = .returned (.bool true) ∧ Below w.heap.size w w' := by
  have HH : Hid (a.length ≤ 1048576 → b.length ≤ 1048576 → ∃ (V : List Int) (ok : Bool), V.length ≤ 1048576 ∧ (∀ (qa : Option Addr) (da : Nat) (qb : Option Addr) (db : Nat) (v : World), Is v.heap.size qa a v → a.length ≤ da → Is v.heap.size qb b v → b.length ≤ db → Calls Try.prog 23 #[.slice qa a.length da, .slice qb b.length db] v fun e w' => ∃ b c, e = .returned (.tuple #[.slice b V.length c, .bool ok]) ∧ OwnJ v.heap.size w'.heap.size b V w' ∧ Below v.heap.size v w') ∧ (∀ (qa : Option Addr) (da : Nat) (qb : Option Addr) (db : Nat) (v : World), Is v.heap.size qa a v → a.length ≤ da → Is v.heap.size qb b v → b.length ≤ db → Calls Try.prog 24 #[.slice qa a.length da, .slice qb b.length db] v fun e w' => ∃ b c, e = .returned (.tuple #[.slice b V.length c, .bool ok]) ∧ OwnJ v.heap.size w'.heap.size b V w' ∧ Below v.heap.size v w')) := H
  have HZa : Hid (∀ v, Below w.heap.size w v → Is v.heap.size aa a v) := fun v g => (hZa.below g).mono g.size
  have HNa := hid hla
  clear hZa hla
  have HZb : Hid (∀ v, Below w.heap.size w v → Is v.heap.size ab b v) := fun v g => (hZb.below g).mono g.size
  have HNb := hid hlb
  clear hZb hlb
  clear H
  have B_w : Hid (Below w.heap.size w w) := Below.refl _ _
  go_enter Try.func8, Try.ntmps8
  by_cases hna : a.length ≤ 1048576
  case neg =>
    have hda : decide ((1048576 : Int) < (a.length : Int)) = true := decide_eq_true (by omega)
    go_wp2_with fail
    go_ret
    exact ⟨rfl, B_w.out⟩
  have hda : decide ((1048576 : Int) < (a.length : Int)) = false := decide_eq_false (by omega)
  have HLa := hid hna
  clear HNa
  by_cases hnb : b.length ≤ 1048576
  case neg =>
    have hdb : decide ((1048576 : Int) < (b.length : Int)) = true := decide_eq_true (by omega)
    go_wp2_with fail
    go_ret
    exact ⟨rfl, B_w.out⟩
  have hdb : decide ((1048576 : Int) < (b.length : Int)) = false := decide_eq_false (by omega)
  have HLb := hid hnb
  clear HNb
  obtain ⟨V, ok, hV, h9, h11⟩ := HH.out HLa.out HLb.out
  have H9 := hid h9
  have H11 := hid h11
  clear h9 h11 HH
  have hbk : (ok != ok) = false := by cases ok <;> rfl
  go_wp2_with fail
  refine (to_capI aa ca a _ HLa.out (HZa.out _ B_w.out)).mono ?_
  rintro e w1 ⟨b1, c1, rfl, o1, g1, k1⟩
  have K1 := hid k1
  clear k1
  have s_w1 := g1.size
  have B_w1 : Hid (Below w.heap.size w w1) := B_w.out.trans (g1.mono B_w.out.size)
  have T0_w1 : Hid (OwnI w.heap.size w1.heap.size b1 a w1) := o1
  clear B_w o1 g1
  go_wp2_with fail
  refine (to_capI ab cb b _ HLb.out (HZb.out _ B_w1.out)).mono ?_
  rintro e w2 ⟨b2, c2, rfl, o2, g2, k2⟩
  have K2 := hid k2
  clear k2
  have s_w2 := g2.size
  have B_w2 : Hid (Below w.heap.size w w2) := B_w1.out.trans (g2.mono B_w1.out.size)
  have T0_w2 : Hid (OwnI w.heap.size w1.heap.size b1 a w2) := T0_w1.out.below g2
  have T1_w2 : Hid (OwnI w1.heap.size w2.heap.size b2 b w2) := o2
  clear B_w1 T0_w1 o2 g2
  go_wp2_with fail
  refine (H9.out b1 c1 b2 c2 _ T0_w2.out.is K1.out T1_w2.out.is K2.out).mono ?_
  rintro e w3 ⟨b3, c3, rfl, o3, g3⟩
  have s_w3 := g3.size
  have B_w3 : Hid (Below w.heap.size w w3) := B_w2.out.trans (g3.mono B_w2.out.size)
  have W_w3 : Hid (OwnJ w2.heap.size w3.heap.size b3 V w3) := o3
  clear B_w2 T0_w2 T1_w2 o3 g3
  clear H9
  go_wp2_with fail
  refine (to_capI aa ca a _ HLa.out (HZa.out _ B_w3.out)).mono ?_
  rintro e w4 ⟨b4, c4, rfl, o4, g4, k4⟩
  have K4 := hid k4
  clear k4
  have s_w4 := g4.size
  have B_w4 : Hid (Below w.heap.size w w4) := B_w3.out.trans (g4.mono B_w3.out.size)
  have W_w4 : Hid (OwnJ w2.heap.size w3.heap.size b3 V w4) := W_w3.out.below g4
  have X0_w4 : Hid (OwnI w3.heap.size w4.heap.size b4 a w4) := o4
  clear B_w3 W_w3 o4 g4
  go_wp2_with fail
  refine (to_capI ab cb b _ HLb.out (HZb.out _ B_w4.out)).mono ?_
  rintro e w5 ⟨b5, c5, rfl, o5, g5, k5⟩
  have K5 := hid k5
  clear k5
  have s_w5 := g5.size
  have B_w5 : Hid (Below w.heap.size w w5) := B_w4.out.trans (g5.mono B_w4.out.size)
  have W_w5 : Hid (OwnJ w2.heap.size w3.heap.size b3 V w5) := W_w4.out.below g5
  have X0_w5 : Hid (OwnI w3.heap.size w4.heap.size b4 a w5) := X0_w4.out.below g5
  have X1_w5 : Hid (OwnI w4.heap.size w5.heap.size b5 b w5) := o5
  clear B_w4 W_w4 X0_w4 o5 g5
  go_wp2_with fail
  refine (H11.out b4 c4 b5 c5 _ X0_w5.out.is K4.out X1_w5.out.is K5.out).mono ?_
  rintro e w6 ⟨b6, c6, rfl, o6, g6⟩
  have s_w6 := g6.size
  have B_w6 : Hid (Below w.heap.size w w6) := B_w5.out.trans (g6.mono B_w5.out.size)
  have W_w6 : Hid (OwnJ w2.heap.size w3.heap.size b3 V w6) := W_w5.out.below g6
  have X0_w6 : Hid (OwnI w3.heap.size w4.heap.size b4 a w6) := X0_w5.out.below g6
  have X1_w6 : Hid (OwnI w4.heap.size w5.heap.size b5 b w6) := X1_w5.out.below g6
  have G_w6 : Hid (OwnJ w5.heap.size w6.heap.size b6 V w6) := o6
  clear B_w5 W_w5 X0_w5 X1_w5 o6 g6
  go_wp2_with fail
  refine (eqIntS_same b6 b3 c6 c3 V _ hV G_w6.out.is W_w6.out.is).mono ?_
  rintro e w7 ⟨rfl, g7⟩
  have s_w7 := g7.size
  have B_w7 : Hid (Below w.heap.size w w7) := B_w6.out.trans (g7.mono B_w6.out.size)
  have W_w7 : Hid (OwnJ w2.heap.size w3.heap.size b3 V w7) := W_w6.out.below g7
  have X0_w7 : Hid (OwnI w3.heap.size w4.heap.size b4 a w7) := X0_w6.out.below g7
  have X1_w7 : Hid (OwnI w4.heap.size w5.heap.size b5 b w7) := X1_w6.out.below g7
  have G_w7 : Hid (OwnJ w5.heap.size w6.heap.size b6 V w7) := G_w6.out.below g7
  clear B_w6 W_w6 X0_w6 X1_w6 G_w6 g7
  go_wp2_with fail
  refine (to_capI aa ca a _ HLa.out (HZa.out _ B_w7.out)).mono ?_
  rintro e w8 ⟨b8, c8, rfl, o8, g8, k8⟩
  have K8 := hid k8
  clear k8
  have s_w8 := g8.size
  have B_w8 : Hid (Below w.heap.size w w8) := B_w7.out.trans (g8.mono B_w7.out.size)
  have W_w8 : Hid (OwnJ w2.heap.size w3.heap.size b3 V w8) := W_w7.out.below g8
  have X0_w8 : Hid (OwnI w3.heap.size w4.heap.size b4 a w8) := X0_w7.out.below g8
  have X1_w8 : Hid (OwnI w4.heap.size w5.heap.size b5 b w8) := X1_w7.out.below g8
  have G_w8 : Hid (OwnJ w5.heap.size w6.heap.size b6 V w8) := G_w7.out.below g8
  have Y_w8 : Hid (OwnI w7.heap.size w8.heap.size b8 a w8) := o8
  clear B_w7 W_w7 X0_w7 X1_w7 G_w7 o8 g8
  go_wp2_with fail
  refine (eqIntS_same b4 b8 c4 c8 a _ HLa.out X0_w8.out.is Y_w8.out.is).mono ?_
  rintro e w9 ⟨rfl, g9⟩
  have s_w9 := g9.size
  have B_w9 : Hid (Below w.heap.size w w9) := B_w8.out.trans (g9.mono B_w8.out.size)
  have W_w9 : Hid (OwnJ w2.heap.size w3.heap.size b3 V w9) := W_w8.out.below g9
  have X0_w9 : Hid (OwnI w3.heap.size w4.heap.size b4 a w9) := X0_w8.out.below g9
  have X1_w9 : Hid (OwnI w4.heap.size w5.heap.size b5 b w9) := X1_w8.out.below g9
  have G_w9 : Hid (OwnJ w5.heap.size w6.heap.size b6 V w9) := G_w8.out.below g9
  clear B_w8 W_w8 X0_w8 X1_w8 G_w8 Y_w8 g9
  go_wp2_with fail
  refine (to_capI ab cb b _ HLb.out (HZb.out _ B_w9.out)).mono ?_
  rintro e w10 ⟨b10, c10, rfl, o10, g10, k10⟩
  have K10 := hid k10
  clear k10
  have s_w10 := g10.size
  have B_w10 : Hid (Below w.heap.size w w10) := B_w9.out.trans (g10.mono B_w9.out.size)
  have W_w10 : Hid (OwnJ w2.heap.size w3.heap.size b3 V w10) := W_w9.out.below g10
  have X0_w10 : Hid (OwnI w3.heap.size w4.heap.size b4 a w10) := X0_w9.out.below g10
  have X1_w10 : Hid (OwnI w4.heap.size w5.heap.size b5 b w10) := X1_w9.out.below g10
  have G_w10 : Hid (OwnJ w5.heap.size w6.heap.size b6 V w10) := G_w9.out.below g10
  have Y_w10 : Hid (OwnI w9.heap.size w10.heap.size b10 b w10) := o10
  clear B_w9 W_w9 X0_w9 X1_w9 G_w9 o10 g10
  go_wp2_with fail
  refine (eqIntS_same b5 b10 c5 c10 b _ HLb.out X1_w10.out.is Y_w10.out.is).mono ?_
  rintro e w11 ⟨rfl, g11⟩
  have s_w11 := g11.size
  have B_w11 : Hid (Below w.heap.size w w11) := B_w10.out.trans (g11.mono B_w10.out.size)
  have W_w11 : Hid (OwnJ w2.heap.size w3.heap.size b3 V w11) := W_w10.out.below g11
  have X0_w11 : Hid (OwnI w3.heap.size w4.heap.size b4 a w11) := X0_w10.out.below g11
  have X1_w11 : Hid (OwnI w4.heap.size w5.heap.size b5 b w11) := X1_w10.out.below g11
  have G_w11 : Hid (OwnJ w5.heap.size w6.heap.size b6 V w11) := G_w10.out.below g11
  clear B_w10 W_w10 X0_w10 X1_w10 G_w10 Y_w10 g11
  have HLl0 := HLa.out
  have u0 : 1 ≤ 1 + a.length := by omega
  have v0 : 1 + a.length ≤ 4000000 := by omega
  have hk0 : decide (((1 + a.length : Nat) : Int) < 0) = false := decide_eq_false (by omega)
  go_wp2_with fail
  refine (mark_ownI _ _ b4 c4 a _ HLa.out 1 (Nat.le_refl _) (by omega) X0_w11.out).mono ?_
  rintro e w12 ⟨rfl, o12, t12⟩
  have s_w12 := t12.size
  have B_w12 : Hid (Below w.heap.size w w12) := B_w11.out.trans (t12.below (by omega) B_w11.out.size)
  have W_w12 : Hid (OwnJ w2.heap.size w3.heap.size b3 V w12) := W_w11.out.out t12 (by omega)
  have X1_w12 : Hid (OwnI w4.heap.size w5.heap.size b5 b w12) := X1_w11.out.out t12 (by omega)
  have G_w12 : Hid (OwnJ w5.heap.size w6.heap.size b6 V w12) := G_w11.out.out t12 (by omega)
  clear B_w11 W_w11 X0_w11 X1_w11 G_w11 o12 t12
  generalize 1 + a.length = m0 at *
  clear HLl0
  have HLl1 := HLb.out
  have u1 : 1 ≤ m0 + b.length := by omega
  have v1 : m0 + b.length ≤ 8000000 := by omega
  have hk1 : decide (((m0 + b.length : Nat) : Int) < 0) = false := decide_eq_false (by omega)
  go_wp2_with fail
  refine (mark_ownI _ _ b5 c5 b _ HLb.out m0 u0 (by omega) X1_w12.out).mono ?_
  rintro e w13 ⟨rfl, o13, t13⟩
  have s_w13 := t13.size
  have B_w13 : Hid (Below w.heap.size w w13) := B_w12.out.trans (t13.below (by omega) B_w12.out.size)
  have W_w13 : Hid (OwnJ w2.heap.size w3.heap.size b3 V w13) := W_w12.out.out t13 (by omega)
  have G_w13 : Hid (OwnJ w5.heap.size w6.heap.size b6 V w13) := G_w12.out.out t13 (by omega)
  clear B_w12 W_w12 X1_w12 G_w12 o13 t13
  generalize m0 + b.length = m1 at *
  clear HLl1
  go_wp2_with fail
  refine (eqIntS_same b6 b3 c6 c3 V _ hV G_w13.out.is W_w13.out.is).mono ?_
  rintro e w14 ⟨rfl, g14⟩
  have s_w14 := g14.size
  have B_w14 : Hid (Below w.heap.size w w14) := B_w13.out.trans (g14.mono B_w13.out.size)
  have W_w14 : Hid (OwnJ w2.heap.size w3.heap.size b3 V w14) := W_w13.out.below g14
  have G_w14 : Hid (OwnJ w5.heap.size w6.heap.size b6 V w14) := G_w13.out.below g14
  clear B_w13 W_w13 G_w13 g14
  go_wp2_with fail
  refine (mark_ownJ _ _ b6 c6 V _ hV 1 (Nat.le_refl _) (by omega) G_w14.out).mono ?_
  rintro e w15 ⟨rfl, o15, t15⟩
  have s_w15 := t15.size
  have B_w15 : Hid (Below w.heap.size w w15) := B_w14.out.trans (t15.below (by omega) B_w14.out.size)
  have W_w15 : Hid (OwnJ w2.heap.size w3.heap.size b3 V w15) := W_w14.out.out t15 (by omega)
  have Gm_w15 : Hid (OwnJ w5.heap.size w6.heap.size b6 (imarks V.length 1) w15) := o15
  clear B_w14 W_w14 G_w14 o15 t15
  have hm : decide (((1 + V.length : Nat) : Int) < 0) = false := decide_eq_false (by omega)
  go_wp2_with fail
  refine (held_ownJ _ _ b6 c6 V.length _ hV Gm_w15.out).mono ?_
  rintro e w16 ⟨rfl, g16⟩
  have s_w16 := g16.size
  have B_w16 : Hid (Below w.heap.size w w16) := B_w15.out.trans (g16.mono B_w15.out.size)
  have W_w16 : Hid (OwnJ w2.heap.size w3.heap.size b3 V w16) := W_w15.out.below g16
  have Gm_w16 : Hid (OwnJ w5.heap.size w6.heap.size b6 (imarks V.length 1) w16) := Gm_w15.out.below g16
  clear B_w15 W_w15 Gm_w15 g16
  go_wp2_with fail
  refine (to_capI aa ca a _ HLa.out (HZa.out _ B_w16.out)).mono ?_
  rintro e w17 ⟨b17, c17, rfl, o17, g17, k17⟩
  have K17 := hid k17
  clear k17
  have s_w17 := g17.size
  have B_w17 : Hid (Below w.heap.size w w17) := B_w16.out.trans (g17.mono B_w16.out.size)
  have W_w17 : Hid (OwnJ w2.heap.size w3.heap.size b3 V w17) := W_w16.out.below g17
  have Gm_w17 : Hid (OwnJ w5.heap.size w6.heap.size b6 (imarks V.length 1) w17) := Gm_w16.out.below g17
  have T0_w17 : Hid (OwnI w16.heap.size w17.heap.size b17 a w17) := o17
  clear B_w16 W_w16 Gm_w16 o17 g17
  go_wp2_with fail
  refine (to_capI ab cb b _ HLb.out (HZb.out _ B_w17.out)).mono ?_
  rintro e w18 ⟨b18, c18, rfl, o18, g18, k18⟩
  have K18 := hid k18
  clear k18
  have s_w18 := g18.size
  have B_w18 : Hid (Below w.heap.size w w18) := B_w17.out.trans (g18.mono B_w17.out.size)
  have W_w18 : Hid (OwnJ w2.heap.size w3.heap.size b3 V w18) := W_w17.out.below g18
  have Gm_w18 : Hid (OwnJ w5.heap.size w6.heap.size b6 (imarks V.length 1) w18) := Gm_w17.out.below g18
  have T0_w18 : Hid (OwnI w16.heap.size w17.heap.size b17 a w18) := T0_w17.out.below g18
  have T1_w18 : Hid (OwnI w17.heap.size w18.heap.size b18 b w18) := o18
  clear B_w17 W_w17 Gm_w17 T0_w17 o18 g18
  go_wp2_with fail
  refine (H11.out b17 c17 b18 c18 _ T0_w18.out.is K17.out T1_w18.out.is K18.out).mono ?_
  rintro e w19 ⟨b19, c19, rfl, o19, g19⟩
  have s_w19 := g19.size
  have B_w19 : Hid (Below w.heap.size w w19) := B_w18.out.trans (g19.mono B_w18.out.size)
  have W_w19 : Hid (OwnJ w2.heap.size w3.heap.size b3 V w19) := W_w18.out.below g19
  have Gm_w19 : Hid (OwnJ w5.heap.size w6.heap.size b6 (imarks V.length 1) w19) := Gm_w18.out.below g19
  have T0_w19 : Hid (OwnI w16.heap.size w17.heap.size b17 a w19) := T0_w18.out.below g19
  have T1_w19 : Hid (OwnI w17.heap.size w18.heap.size b18 b w19) := T1_w18.out.below g19
  have Q_w19 : Hid (OwnJ w18.heap.size w19.heap.size b19 V w19) := o19
  clear B_w18 W_w18 Gm_w18 T0_w18 T1_w18 o19 g19
  go_wp2_with fail
  refine (eqIntS_same b19 b3 c19 c3 V _ hV Q_w19.out.is W_w19.out.is).mono ?_
  rintro e w20 ⟨rfl, g20⟩
  have s_w20 := g20.size
  have B_w20 : Hid (Below w.heap.size w w20) := B_w19.out.trans (g20.mono B_w19.out.size)
  have W_w20 : Hid (OwnJ w2.heap.size w3.heap.size b3 V w20) := W_w19.out.below g20
  have Gm_w20 : Hid (OwnJ w5.heap.size w6.heap.size b6 (imarks V.length 1) w20) := Gm_w19.out.below g20
  have T0_w20 : Hid (OwnI w16.heap.size w17.heap.size b17 a w20) := T0_w19.out.below g20
  have T1_w20 : Hid (OwnI w17.heap.size w18.heap.size b18 b w20) := T1_w19.out.below g20
  have Q_w20 : Hid (OwnJ w18.heap.size w19.heap.size b19 V w20) := Q_w19.out.below g20
  clear B_w19 W_w19 Gm_w19 T0_w19 T1_w19 Q_w19 g20
  go_wp2_with fail
  refine (held_ownJ _ _ b6 c6 V.length _ hV Gm_w20.out).mono ?_
  rintro e w21 ⟨rfl, g21⟩
  have s_w21 := g21.size
  have B_w21 : Hid (Below w.heap.size w w21) := B_w20.out.trans (g21.mono B_w20.out.size)
  have W_w21 : Hid (OwnJ w2.heap.size w3.heap.size b3 V w21) := W_w20.out.below g21
  have Gm_w21 : Hid (OwnJ w5.heap.size w6.heap.size b6 (imarks V.length 1) w21) := Gm_w20.out.below g21
  have T0_w21 : Hid (OwnI w16.heap.size w17.heap.size b17 a w21) := T0_w20.out.below g21
  have T1_w21 : Hid (OwnI w17.heap.size w18.heap.size b18 b w21) := T1_w20.out.below g21
  have Q_w21 : Hid (OwnJ w18.heap.size w19.heap.size b19 V w21) := Q_w20.out.below g21
  clear B_w20 W_w20 Gm_w20 T0_w20 T1_w20 Q_w20 g21
  go_wp2_with fail
  go_ret
  exact ⟨rfl, B_w21.out⟩
theorem walk_LackedBy (pa : Option Addr) (ca : Nat) (a : List Int) (pb : Option Addr) (cb : Nat) (b : List Int) (w : World) (_hsa : ∀ x ∈ a, fit x) (hla : a.length ≤ 9223372036854775807) (hZa : Is w.heap.size pa a w) (_hsb : ∀ x ∈ b, fit x) (hlb : b.length ≤ 9223372036854775807) (hZb : Is w.heap.size pb b w) :
    Calls Try.prog 8 #[.slice pa a.length ca, .slice pb b.length cb] w fun e w' => e = .returned (.bool true) ∧ Below w.heap.size w w' :=
  law_LackedBy pa ca a pb cb b w hla hZa hlb hZb fun hna hnb => ⟨lackV a b, lackOk a b, Nat.le_trans (lackV_len a b) (by decide), fun qa da qb db v va _ vb _ => (sLack_any qa qb da db a b v hna hnb va vb).mono fun _ _ h => by obtain ⟨b, c, h1, h2, h3, _⟩ := h; exact ⟨b, c, h1, h2, h3⟩, fun qa da qb db v va _ vb _ => (iLack_any qa qb da db a b v hna hnb va vb).mono fun _ _ h => by obtain ⟨b, c, h1, h2, h3, _⟩ := h; exact ⟨b, c, h1, h2, h3⟩⟩
end Go.Proofs.Ytghhjjblmmhcgaa
