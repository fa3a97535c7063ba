/- The exact law of ThenDelta: its walk out of the contracts of the model and of the program. -/
import Derived.Test.YtakhohabjcgpoabTTh
import Derived.Test.YtakhohabjcgpoabTPk
namespace Go.Proofs.Ytakhohabjcgpoab
set_option maxRecDepth 100000
open Go Go.ChangeShapes Go.WideShapes Go.ChangeAt Go.RowKit
set_option maxHeartbeats 8000000 in
theorem law_ThenDelta (s : ByteArray) (aa : Option Addr) (ca : Nat) (a : List Pt) (ab : Option Addr) (cb : Nat) (b : List Pt) (w : World) (hss : s.size ≤ 9223372036854775807) (hfa : ∀ r ∈ a, r.tx.size ≤ 9223372036854775807) (hla : a.length ≤ 9223372036854775807) (hZa : Pts w.heap.size aa a w) (hfb : ∀ r ∈ b, r.tx.size ≤ 9223372036854775807) (hlb : b.length ≤ 9223372036854775807) (hZb : Pts w.heap.size ab b w)
    (H : s.size ≤ 1048576 → a.length ≤ 1048576 → b.length ≤ 1048576 → ∃ (V : List Pt) (ok : Bool), V.length ≤ 1048576 ∧ (∀ (qa : Option Addr) (da : Nat) (qb : Option Addr) (db : Nat) (v : World), Pts v.heap.size qa a v → a.length ≤ da → Pts v.heap.size qb b v → b.length ≤ db → Calls Try.prog 10 #[.string s, .slice qa a.length da, .slice qb b.length db] v fun e w' => ∃ b c, e = .returned (.tuple #[.slice b V.length c, .bool ok]) ∧ OwnT v.heap.size w'.heap.size b V w' ∧ Below v.heap.size v w') ∧ (∀ (qa : Option Addr) (da : Nat) (qb : Option Addr) (db : Nat) (v : World), Pts v.heap.size qa a v → a.length ≤ da → Pts v.heap.size qb b v → b.length ≤ db → Calls Try.prog 11 #[.string s, .slice qa a.length da, .slice qb b.length db] v fun e w' => ∃ b c, e = .returned (.tuple #[.slice b V.length c, .bool ok]) ∧ OwnT v.heap.size w'.heap.size b V w' ∧ Below v.heap.size v w')) :
    Calls Try.prog 4 #[.string s, .slice aa a.length ca, .slice ab b.length cb] w fun e w' => e = .returned (.bool true) ∧ Below w.heap.size w w' := by
  have HH : Hid (s.size ≤ 1048576 → a.length ≤ 1048576 → b.length ≤ 1048576 → ∃ (V : List Pt) (ok : Bool), V.length ≤ 1048576 ∧ (∀ (qa : Option Addr) (da : Nat) (qb : Option Addr) (db : Nat) (v : World), Pts v.heap.size qa a v → a.length ≤ da → Pts v.heap.size qb b v → b.length ≤ db → Calls Try.prog 10 #[.string s, .slice qa a.length da, .slice qb b.length db] v fun e w' => ∃ b c, e = .returned (.tuple #[.slice b V.length c, .bool ok]) ∧ OwnT v.heap.size w'.heap.size b V w' ∧ Below v.heap.size v w') ∧ (∀ (qa : Option Addr) (da : Nat) (qb : Option Addr) (db : Nat) (v : World), Pts v.heap.size qa a v → a.length ≤ da → Pts v.heap.size qb b v → b.length ≤ db → Calls Try.prog 11 #[.string s, .slice qa a.length da, .slice qb b.length db] v fun e w' => ∃ b c, e = .returned (.tuple #[.slice b V.length c, .bool ok]) ∧ OwnT v.heap.size w'.heap.size b V w' ∧ Below v.heap.size v w')) := H
  have HZa : Hid (∀ v, Below w.heap.size w v → Pts v.heap.size aa a v) := fun v g => (hZa.below g).mono g.size
  have HFa := hid hfa
  clear hfa
  have HNa := hid hla
  clear hZa hla
  have HZb : Hid (∀ v, Below w.heap.size w v → Pts v.heap.size ab b v) := fun v g => (hZb.below g).mono g.size
  have HFb := hid hfb
  clear hfb
  have HNb := hid hlb
  clear hZb hlb
  clear H
  have B_w : Hid (Below w.heap.size w w) := Below.refl _ _
  go_enter Try.func4, Try.ntmps4
  by_cases hns : s.size ≤ 1048576
  case neg =>
    have hds : decide ((1048576 : Int) < (s.size : Int)) = true := decide_eq_true (by omega)
    go_wp2_with fail
    go_ret
    exact ⟨rfl, B_w.out⟩
  have hds : decide ((1048576 : Int) < (s.size : Int)) = false := decide_eq_false (by omega)
  go_wp2_with fail
  refine (szPartS_left aa ca a 1048576 w (by decide) (by decide) HFa.out HNa.out (HZa.out _ B_w.out)).mono ?_
  rintro e w1 ⟨⟨r1, rfl, x1, hr1⟩, g1⟩
  have s_w1 := g1.size
  have B_w1 : Hid (Below w.heap.size w w1) := B_w.out.trans (g1.mono B_w.out.size)
  clear B_w g1
  by_cases p1 : 0 ≤ r1
  case neg =>
    have hd1 : decide (r1 < 0) = true := decide_eq_true (by omega)
    clear hr1
    go_wp2_with fail
    go_ret
    exact ⟨rfl, B_w1.out⟩
  have hd1 : decide (r1 < 0) = false := decide_eq_false (by omega)
  have HLa : Hid (a.length ≤ 1048576) := hr1 p1
  clear hr1 HFa HNa
  go_wp2_with fail
  refine (szPartS_left ab cb b r1 w1 p1 x1 HFb.out HNb.out (HZb.out _ B_w1.out)).mono ?_
  rintro e w2 ⟨⟨r2, rfl, x2, hr2⟩, g2⟩
  have s_w2 := g2.size
  have B_w2 : Hid (Below w.heap.size w w2) := B_w1.out.trans (g2.mono B_w1.out.size)
  clear B_w1 g2
  by_cases p2 : 0 ≤ r2
  case neg =>
    have hd2 : decide (r2 < 0) = true := decide_eq_true (by omega)
    clear hr2
    go_wp2_with fail
    go_ret
    exact ⟨rfl, B_w2.out⟩
  have hd2 : decide (r2 < 0) = false := decide_eq_false (by omega)
  have HLb : Hid (b.length ≤ 1048576) := hr2 p2
  clear hr2 HFb HNb
  obtain ⟨V, ok, hV, h9, h11⟩ := HH.out hns HLa.out HLb.out
  have H9 := hid h9
  have H11 := hid h11
  clear h9 h11 HH
  have hbk : (ok != ok) = false := by cases ok <;> rfl
  go_wp2_with fail
  refine (to_ownT aa ca a _ HLa.out (HZa.out _ B_w2.out)).mono ?_
  rintro e w3 ⟨b3, rfl, o3, g3⟩
  have s_w3 := g3.size
  have B_w3 : Hid (Below w.heap.size w w3) := B_w2.out.trans (g3.mono B_w2.out.size)
  have T0_w3 : Hid (OwnT w2.heap.size w3.heap.size b3 a w3) := o3
  clear B_w2 o3 g3
  go_wp2_with fail
  refine (to_ownT ab cb b _ HLb.out (HZb.out _ B_w3.out)).mono ?_
  rintro e w4 ⟨b4, rfl, o4, g4⟩
  have s_w4 := g4.size
  have B_w4 : Hid (Below w.heap.size w w4) := B_w3.out.trans (g4.mono B_w3.out.size)
  have T0_w4 : Hid (OwnT w2.heap.size w3.heap.size b3 a w4) := T0_w3.out.below g4
  have T1_w4 : Hid (OwnT w3.heap.size w4.heap.size b4 b w4) := o4
  clear B_w3 T0_w3 o4 g4
  go_wp2_with fail
  refine (H9.out b3 a.length b4 b.length _ T0_w4.out.ts (Nat.le_refl _) T1_w4.out.ts (Nat.le_refl _)).mono ?_
  rintro e w5 ⟨b5, c5, rfl, o5, g5⟩
  have s_w5 := g5.size
  have B_w5 : Hid (Below w.heap.size w w5) := B_w4.out.trans (g5.mono B_w4.out.size)
  have W_w5 : Hid (OwnT w4.heap.size w5.heap.size b5 V w5) := o5
  clear B_w4 T0_w4 T1_w4 o5 g5
  clear H9
  go_wp2_with fail
  refine (to_ownT aa ca a _ HLa.out (HZa.out _ B_w5.out)).mono ?_
  rintro e w6 ⟨b6, rfl, o6, g6⟩
  have s_w6 := g6.size
  have B_w6 : Hid (Below w.heap.size w w6) := B_w5.out.trans (g6.mono B_w5.out.size)
  have W_w6 : Hid (OwnT w4.heap.size w5.heap.size b5 V w6) := W_w5.out.below g6
  have X0_w6 : Hid (OwnT w5.heap.size w6.heap.size b6 a w6) := o6
  clear B_w5 W_w5 o6 g6
  go_wp2_with fail
  refine (to_ownT ab cb b _ HLb.out (HZb.out _ B_w6.out)).mono ?_
  rintro e w7 ⟨b7, rfl, o7, g7⟩
  have s_w7 := g7.size
  have B_w7 : Hid (Below w.heap.size w w7) := B_w6.out.trans (g7.mono B_w6.out.size)
  have W_w7 : Hid (OwnT w4.heap.size w5.heap.size b5 V w7) := W_w6.out.below g7
  have X0_w7 : Hid (OwnT w5.heap.size w6.heap.size b6 a w7) := X0_w6.out.below g7
  have X1_w7 : Hid (OwnT w6.heap.size w7.heap.size b7 b w7) := o7
  clear B_w6 W_w6 X0_w6 o7 g7
  go_wp2_with fail
  refine (H11.out b6 a.length b7 b.length _ X0_w7.out.ts (Nat.le_refl _) X1_w7.out.ts (Nat.le_refl _)).mono ?_
  rintro e w8 ⟨b8, c8, rfl, o8, g8⟩
  have s_w8 := g8.size
  have B_w8 : Hid (Below w.heap.size w w8) := B_w7.out.trans (g8.mono B_w7.out.size)
  have W_w8 : Hid (OwnT w4.heap.size w5.heap.size b5 V w8) := W_w7.out.below g8
  have X0_w8 : Hid (OwnT w5.heap.size w6.heap.size b6 a w8) := X0_w7.out.below g8
  have X1_w8 : Hid (OwnT w6.heap.size w7.heap.size b7 b w8) := X1_w7.out.below g8
  have G_w8 : Hid (OwnT w7.heap.size w8.heap.size b8 V w8) := o8
  clear B_w7 W_w7 X0_w7 X1_w7 o8 g8
  go_wp2_with fail
  refine (eqPartS_same b8 b5 c8 c5 V _ hV G_w8.out.ts W_w8.out.ts).mono ?_
  rintro e w9 ⟨rfl, g9⟩
  have s_w9 := g9.size
  have B_w9 : Hid (Below w.heap.size w w9) := B_w8.out.trans (g9.mono B_w8.out.size)
  have W_w9 : Hid (OwnT w4.heap.size w5.heap.size b5 V w9) := W_w8.out.below g9
  have X0_w9 : Hid (OwnT w5.heap.size w6.heap.size b6 a w9) := X0_w8.out.below g9
  have X1_w9 : Hid (OwnT w6.heap.size w7.heap.size b7 b w9) := X1_w8.out.below g9
  have G_w9 : Hid (OwnT w7.heap.size w8.heap.size b8 V w9) := G_w8.out.below g9
  clear B_w8 W_w8 X0_w8 X1_w8 G_w8 g9
  go_wp2_with fail
  refine (to_ownT aa ca a _ HLa.out (HZa.out _ B_w9.out)).mono ?_
  rintro e w10 ⟨b10, rfl, o10, g10⟩
  have s_w10 := g10.size
  have B_w10 : Hid (Below w.heap.size w w10) := B_w9.out.trans (g10.mono B_w9.out.size)
  have W_w10 : Hid (OwnT w4.heap.size w5.heap.size b5 V w10) := W_w9.out.below g10
  have X0_w10 : Hid (OwnT w5.heap.size w6.heap.size b6 a w10) := X0_w9.out.below g10
  have X1_w10 : Hid (OwnT w6.heap.size w7.heap.size b7 b w10) := X1_w9.out.below g10
  have G_w10 : Hid (OwnT w7.heap.size w8.heap.size b8 V w10) := G_w9.out.below g10
  have Y_w10 : Hid (OwnT w9.heap.size w10.heap.size b10 a w10) := o10
  clear B_w9 W_w9 X0_w9 X1_w9 G_w9 o10 g10
  go_wp2_with fail
  refine (eqPartS_same b6 b10 a.length a.length a _ HLa.out X0_w10.out.ts Y_w10.out.ts).mono ?_
  rintro e w11 ⟨rfl, g11⟩
  have s_w11 := g11.size
  have B_w11 : Hid (Below w.heap.size w w11) := B_w10.out.trans (g11.mono B_w10.out.size)
  have W_w11 : Hid (OwnT w4.heap.size w5.heap.size b5 V w11) := W_w10.out.below g11
  have X0_w11 : Hid (OwnT w5.heap.size w6.heap.size b6 a w11) := X0_w10.out.below g11
  have X1_w11 : Hid (OwnT w6.heap.size w7.heap.size b7 b w11) := X1_w10.out.below g11
  have G_w11 : Hid (OwnT w7.heap.size w8.heap.size b8 V w11) := G_w10.out.below g11
  clear B_w10 W_w10 X0_w10 X1_w10 G_w10 Y_w10 g11
  go_wp2_with fail
  refine (to_ownT ab cb b _ HLb.out (HZb.out _ B_w11.out)).mono ?_
  rintro e w12 ⟨b12, rfl, o12, g12⟩
  have s_w12 := g12.size
  have B_w12 : Hid (Below w.heap.size w w12) := B_w11.out.trans (g12.mono B_w11.out.size)
  have W_w12 : Hid (OwnT w4.heap.size w5.heap.size b5 V w12) := W_w11.out.below g12
  have X0_w12 : Hid (OwnT w5.heap.size w6.heap.size b6 a w12) := X0_w11.out.below g12
  have X1_w12 : Hid (OwnT w6.heap.size w7.heap.size b7 b w12) := X1_w11.out.below g12
  have G_w12 : Hid (OwnT w7.heap.size w8.heap.size b8 V w12) := G_w11.out.below g12
  have Y_w12 : Hid (OwnT w11.heap.size w12.heap.size b12 b w12) := o12
  clear B_w11 W_w11 X0_w11 X1_w11 G_w11 o12 g12
  go_wp2_with fail
  refine (eqPartS_same b7 b12 b.length b.length b _ HLb.out X1_w12.out.ts Y_w12.out.ts).mono ?_
  rintro e w13 ⟨rfl, g13⟩
  have s_w13 := g13.size
  have B_w13 : Hid (Below w.heap.size w w13) := B_w12.out.trans (g13.mono B_w12.out.size)
  have W_w13 : Hid (OwnT w4.heap.size w5.heap.size b5 V w13) := W_w12.out.below g13
  have X0_w13 : Hid (OwnT w5.heap.size w6.heap.size b6 a w13) := X0_w12.out.below g13
  have X1_w13 : Hid (OwnT w6.heap.size w7.heap.size b7 b w13) := X1_w12.out.below g13
  have G_w13 : Hid (OwnT w7.heap.size w8.heap.size b8 V w13) := G_w12.out.below g13
  clear B_w12 W_w12 X0_w12 X1_w12 G_w12 Y_w12 g13
  have HLl0 := HLa.out
  have u0 : 1 ≤ 1 + 3 * a.length := by omega
  have v0 : 1 + 3 * a.length ≤ 4000000 := by omega
  have hk0 : decide (((1 + 3 * a.length : Nat) : Int) < 0) = false := decide_eq_false (by omega)
  go_wp2_with fail
  refine (mark_ownT _ _ b6 a.length 1 a _ HLa.out (Nat.le_refl _) (by decide) X0_w13.out).mono ?_
  rintro e w14 ⟨rfl, o14, t14⟩
  have s_w14 := t14.size
  have B_w14 : Hid (Below w.heap.size w w14) := B_w13.out.trans (t14.below (by omega) B_w13.out.size)
  have W_w14 : Hid (OwnT w4.heap.size w5.heap.size b5 V w14) := W_w13.out.out t14 (by omega)
  have X1_w14 : Hid (OwnT w6.heap.size w7.heap.size b7 b w14) := X1_w13.out.out t14 (by omega)
  have G_w14 : Hid (OwnT w7.heap.size w8.heap.size b8 V w14) := G_w13.out.out t14 (by omega)
  clear B_w13 W_w13 X0_w13 X1_w13 G_w13 o14 t14
  generalize 1 + 3 * a.length = m0 at *
  clear HLl0
  have HLl1 := HLb.out
  have u1 : 1 ≤ m0 + 3 * b.length := by omega
  have v1 : m0 + 3 * b.length ≤ 8000000 := by omega
  have hk1 : decide (((m0 + 3 * b.length : Nat) : Int) < 0) = false := decide_eq_false (by omega)
  go_wp2_with fail
  refine (mark_ownT _ _ b7 b.length m0 b _ HLb.out u0 (by omega) X1_w14.out).mono ?_
  rintro e w15 ⟨rfl, o15, t15⟩
  have s_w15 := t15.size
  have B_w15 : Hid (Below w.heap.size w w15) := B_w14.out.trans (t15.below (by omega) B_w14.out.size)
  have W_w15 : Hid (OwnT w4.heap.size w5.heap.size b5 V w15) := W_w14.out.out t15 (by omega)
  have G_w15 : Hid (OwnT w7.heap.size w8.heap.size b8 V w15) := G_w14.out.out t15 (by omega)
  clear B_w14 W_w14 X1_w14 G_w14 o15 t15
  generalize m0 + 3 * b.length = m1 at *
  clear HLl1
  go_wp2_with fail
  refine (eqPartS_same b8 b5 c8 c5 V _ hV G_w15.out.ts W_w15.out.ts).mono ?_
  rintro e w16 ⟨rfl, g16⟩
  have s_w16 := g16.size
  have B_w16 : Hid (Below w.heap.size w w16) := B_w15.out.trans (g16.mono B_w15.out.size)
  have W_w16 : Hid (OwnT w4.heap.size w5.heap.size b5 V w16) := W_w15.out.below g16
  have G_w16 : Hid (OwnT w7.heap.size w8.heap.size b8 V w16) := G_w15.out.below g16
  clear B_w15 W_w15 G_w15 g16
  go_wp2_with fail
  refine (mark_ownT _ _ b8 c8 1 V _ hV (Nat.le_refl _) (by decide) G_w16.out).mono ?_
  rintro e w17 ⟨rfl, o17, t17⟩
  have s_w17 := t17.size
  have B_w17 : Hid (Below w.heap.size w w17) := B_w16.out.trans (t17.below (by omega) B_w16.out.size)
  have W_w17 : Hid (OwnT w4.heap.size w5.heap.size b5 V w17) := W_w16.out.out t17 (by omega)
  have Gm_w17 : Hid (OwnT w7.heap.size w8.heap.size b8 (tmarks V.length 1) w17) := o17
  clear B_w16 W_w16 G_w16 o17 t17
  have hm : decide (((1 + 3 * V.length : Nat) : Int) < 0) = false := decide_eq_false (by omega)
  go_wp2_with fail
  refine (held_ownT _ _ b8 c8 V.length _ hV Gm_w17.out).mono ?_
  rintro e w18 ⟨rfl, g18⟩
  have s_w18 := g18.size
  have B_w18 : Hid (Below w.heap.size w w18) := B_w17.out.trans (g18.mono B_w17.out.size)
  have W_w18 : Hid (OwnT w4.heap.size w5.heap.size b5 V w18) := W_w17.out.below g18
  have Gm_w18 : Hid (OwnT w7.heap.size w8.heap.size b8 (tmarks V.length 1) w18) := Gm_w17.out.below g18
  clear B_w17 W_w17 Gm_w17 g18
  go_wp2_with fail
  refine (to_ownT aa ca a _ HLa.out (HZa.out _ B_w18.out)).mono ?_
  rintro e w19 ⟨b19, rfl, o19, g19⟩
  have s_w19 := g19.size
  have B_w19 : Hid (Below w.heap.size w w19) := B_w18.out.trans (g19.mono B_w18.out.size)
  have W_w19 : Hid (OwnT w4.heap.size w5.heap.size b5 V w19) := W_w18.out.below g19
  have Gm_w19 : Hid (OwnT w7.heap.size w8.heap.size b8 (tmarks V.length 1) w19) := Gm_w18.out.below g19
  have T0_w19 : Hid (OwnT w18.heap.size w19.heap.size b19 a w19) := o19
  clear B_w18 W_w18 Gm_w18 o19 g19
  go_wp2_with fail
  refine (to_ownT ab cb b _ HLb.out (HZb.out _ B_w19.out)).mono ?_
  rintro e w20 ⟨b20, rfl, o20, g20⟩
  have s_w20 := g20.size
  have B_w20 : Hid (Below w.heap.size w w20) := B_w19.out.trans (g20.mono B_w19.out.size)
  have W_w20 : Hid (OwnT w4.heap.size w5.heap.size b5 V w20) := W_w19.out.below g20
  have Gm_w20 : Hid (OwnT w7.heap.size w8.heap.size b8 (tmarks V.length 1) w20) := Gm_w19.out.below g20
  have T0_w20 : Hid (OwnT w18.heap.size w19.heap.size b19 a w20) := T0_w19.out.below g20
  have T1_w20 : Hid (OwnT w19.heap.size w20.heap.size b20 b w20) := o20
  clear B_w19 W_w19 Gm_w19 T0_w19 o20 g20
  go_wp2_with fail
  refine (H11.out b19 a.length b20 b.length _ T0_w20.out.ts (Nat.le_refl _) T1_w20.out.ts (Nat.le_refl _)).mono ?_
  rintro e w21 ⟨b21, c21, rfl, o21, g21⟩
  have s_w21 := g21.size
  have B_w21 : Hid (Below w.heap.size w w21) := B_w20.out.trans (g21.mono B_w20.out.size)
  have W_w21 : Hid (OwnT w4.heap.size w5.heap.size b5 V w21) := W_w20.out.below g21
  have Gm_w21 : Hid (OwnT w7.heap.size w8.heap.size b8 (tmarks V.length 1) w21) := Gm_w20.out.below g21
  have T0_w21 : Hid (OwnT w18.heap.size w19.heap.size b19 a w21) := T0_w20.out.below g21
  have T1_w21 : Hid (OwnT w19.heap.size w20.heap.size b20 b w21) := T1_w20.out.below g21
  have Q_w21 : Hid (OwnT w20.heap.size w21.heap.size b21 V w21) := o21
  clear B_w20 W_w20 Gm_w20 T0_w20 T1_w20 o21 g21
  go_wp2_with fail
  refine (eqPartS_same b21 b5 c21 c5 V _ hV Q_w21.out.ts W_w21.out.ts).mono ?_
  rintro e w22 ⟨rfl, g22⟩
  have s_w22 := g22.size
  have B_w22 : Hid (Below w.heap.size w w22) := B_w21.out.trans (g22.mono B_w21.out.size)
  have W_w22 : Hid (OwnT w4.heap.size w5.heap.size b5 V w22) := W_w21.out.below g22
  have Gm_w22 : Hid (OwnT w7.heap.size w8.heap.size b8 (tmarks V.length 1) w22) := Gm_w21.out.below g22
  have T0_w22 : Hid (OwnT w18.heap.size w19.heap.size b19 a w22) := T0_w21.out.below g22
  have T1_w22 : Hid (OwnT w19.heap.size w20.heap.size b20 b w22) := T1_w21.out.below g22
  have Q_w22 : Hid (OwnT w20.heap.size w21.heap.size b21 V w22) := Q_w21.out.below g22
  clear B_w21 W_w21 Gm_w21 T0_w21 T1_w21 Q_w21 g22
  go_wp2_with fail
  refine (held_ownT _ _ b8 c8 V.length _ hV Gm_w22.out).mono ?_
  rintro e w23 ⟨rfl, g23⟩
  have s_w23 := g23.size
  have B_w23 : Hid (Below w.heap.size w w23) := B_w22.out.trans (g23.mono B_w22.out.size)
  have W_w23 : Hid (OwnT w4.heap.size w5.heap.size b5 V w23) := W_w22.out.below g23
  have Gm_w23 : Hid (OwnT w7.heap.size w8.heap.size b8 (tmarks V.length 1) w23) := Gm_w22.out.below g23
  have T0_w23 : Hid (OwnT w18.heap.size w19.heap.size b19 a w23) := T0_w22.out.below g23
  have T1_w23 : Hid (OwnT w19.heap.size w20.heap.size b20 b w23) := T1_w22.out.below g23
  have Q_w23 : Hid (OwnT w20.heap.size w21.heap.size b21 V w23) := Q_w22.out.below g23
  clear B_w22 W_w22 Gm_w22 T0_w22 T1_w22 Q_w22 g23
  go_wp2_with fail
  go_ret
  exact ⟨rfl, B_w23.out⟩
theorem pin_of {q : Option Addr} {l : List Pt} {w : World} (hn : l.length ≤ 1048576) (hf : ∀ r ∈ l, r.tx.size ≤ 9223372036854775807 ∧ fit r.fr ∧ fit r.lg) (hZ : Pts w.heap.size q l w) : PIn q l w :=
  ⟨hn, fun r h => (hf r h).2, fun r h => (hf r h).1, fun _ g => (hZ.below g).mono g.size⟩
theorem walk_ThenDelta (s : ByteArray) (a1 : Option Addr) (c1 : Nat) (a : List Pt) (a2 : Option Addr) (c2 : Nat) (b : List Pt) (w : World) (hs : s.size ≤ 9223372036854775807) (hZ1 : Pts w.heap.size a1 a w) (hf1 : ∀ r ∈ a, r.tx.size ≤ 9223372036854775807 ∧ fit r.fr ∧ fit r.lg) (hl1 : a.length ≤ 9223372036854775807)
    (hZ2 : Pts w.heap.size a2 b w) (hf2 : ∀ r ∈ b, r.tx.size ≤ 9223372036854775807 ∧ fit r.fr ∧ fit r.lg) (hl2 : b.length ≤ 9223372036854775807) :
    Calls Try.prog 4 #[.string s, .slice a1 a.length c1, .slice a2 b.length c2] w fun e w' => e = .returned (.bool true) ∧ Below w.heap.size w w' :=
  law_ThenDelta s a1 c1 a a2 c2 b w hs (fun r h => (hf1 r h).1) hl1 hZ1 (fun r h => (hf2 r h).1) hl2 hZ2 fun hn h1 h2 => ⟨thenV s a b, thenOk s a b, thenV_len s a b,
    fun qa da qb db v va _ vb _ => sThen_any s qa qb da db a b v hn (pin_of h1 hf1 va) (pin_of h2 hf2 vb), fun qa da qb db v va _ vb _ => iThen_any s qa qb da db a b v (pin_of h1 hf1 va) (pin_of h2 hf2 vb)⟩
end Go.Proofs.Ytakhohabjcgpoab
