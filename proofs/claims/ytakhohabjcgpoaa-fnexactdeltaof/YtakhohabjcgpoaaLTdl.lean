/- The exact law of DeltaOf: its walk out of the contracts of the model and of the program. -/
import Derived.Test.YtakhohabjcgpoaaTDd
import Derived.Test.YtakhohabjcgpoaaTPk
namespace Go.Proofs.Ytakhohabjcgpoaa
set_option maxRecDepth 100000
open Go Go.ChangeShapes Go.WideShapes Go.ChangeAt Go.RowKit
set_option maxHeartbeats 8000000 in
theorem law_DeltaOf (o : ByteArray) (s : ByteArray) (w : World) (hso : o.size ≤ 9223372036854775807) (hss : s.size ≤ 9223372036854775807)
    (H : o.size ≤ 1048576 → s.size ≤ 1048576 → ∃ (V : List Pt) (ok : Bool), V.length ≤ 1048576 ∧ (∀ (v : World), Calls Try.prog 18 #[.string o, .string s] v fun e w' => ∃ b c, e = .returned (.tuple #[.slice b V.length c, .bool ok]) ∧ OwnT v.heap.size w'.heap.size b V w' ∧ Below v.heap.size v w') ∧ (∀ (v : World), Calls Try.prog 19 #[.string o, .string s] v fun e w' => ∃ b c, e = .returned (.tuple #[.slice b V.length c, .bool ok]) ∧ OwnT v.heap.size w'.heap.size b V w' ∧ Below v.heap.size v w')) :
    Calls Try.prog 6 #[.string o, .string s] w fun e w' => e = .returned (.bool true) ∧ Below w.heap.size w w' := by
  have HH : Hid (o.size ≤ 1048576 → s.size ≤ 1048576 → ∃ (V : List Pt) (ok : Bool), V.length ≤ 1048576 ∧ (∀ (v : World), Calls Try.prog 18 #[.string o, .string s] v fun e w' => ∃ b c, e = .returned (.tuple #[.slice b V.length c, .bool ok]) ∧ OwnT v.heap.size w'.heap.size b V w' ∧ Below v.heap.size v w') ∧ (∀ (v : World), Calls Try.prog 19 #[.string o, .string s] v fun e w' => ∃ b c, e = .returned (.tuple #[.slice b V.length c, .bool ok]) ∧ OwnT v.heap.size w'.heap.size b V w' ∧ Below v.heap.size v w')) := H
  clear H
  have B_w : Hid (Below w.heap.size w w) := Below.refl _ _
  go_enter Try.func6, Try.ntmps6
  by_cases hno : o.size ≤ 1048576
  case neg =>
    have hdo : decide ((1048576 : Int) < (o.size : Int)) = true := decide_eq_true (by omega)
    go_wp2_with fail
    go_ret
    exact ⟨rfl, B_w.out⟩
  have hdo : decide ((1048576 : Int) < (o.size : Int)) = false := decide_eq_false (by omega)
  by_cases hns : s.size ≤ 1048576
  case neg =>
    have hds : decide ((1048576 : Int) < (s.size : Int)) = true := decide_eq_true (by omega)
    go_wp2_with fail
    go_ret
    exact ⟨rfl, B_w.out⟩
  have hds : decide ((1048576 : Int) < (s.size : Int)) = false := decide_eq_false (by omega)
  obtain ⟨V, ok, hV, h9, h11⟩ := HH.out hno hns
  have H9 := hid h9
  have H11 := hid h11
  clear h9 h11 HH
  have hbk : (ok != ok) = false := by cases ok <;> rfl
  go_wp2_with fail
  refine (H9.out  _ ).mono ?_
  rintro e w1 ⟨b1, c1, rfl, o1, g1⟩
  have s_w1 := g1.size
  have B_w1 : Hid (Below w.heap.size w w1) := B_w.out.trans (g1.mono B_w.out.size)
  have W_w1 : Hid (OwnT w.heap.size w1.heap.size b1 V w1) := o1
  clear B_w o1 g1
  clear H9
  go_wp2_with fail
  refine (H11.out  _ ).mono ?_
  rintro e w2 ⟨b2, c2, rfl, o2, g2⟩
  have s_w2 := g2.size
  have B_w2 : Hid (Below w.heap.size w w2) := B_w1.out.trans (g2.mono B_w1.out.size)
  have W_w2 : Hid (OwnT w.heap.size w1.heap.size b1 V w2) := W_w1.out.below g2
  have G_w2 : Hid (OwnT w1.heap.size w2.heap.size b2 V w2) := o2
  clear B_w1 W_w1 o2 g2
  go_wp2_with fail
  refine (eqPartS_same b2 b1 c2 c1 V _ hV G_w2.out.ts W_w2.out.ts).mono ?_
  rintro e w3 ⟨rfl, g3⟩
  have s_w3 := g3.size
  have B_w3 : Hid (Below w.heap.size w w3) := B_w2.out.trans (g3.mono B_w2.out.size)
  have W_w3 : Hid (OwnT w.heap.size w1.heap.size b1 V w3) := W_w2.out.below g3
  have G_w3 : Hid (OwnT w1.heap.size w2.heap.size b2 V w3) := G_w2.out.below g3
  clear B_w2 W_w2 G_w2 g3
  go_wp2_with fail
  refine (mark_ownT _ _ b2 c2 1 V _ hV (Nat.le_refl _) (by decide) G_w3.out).mono ?_
  rintro e w4 ⟨rfl, o4, t4⟩
  have s_w4 := t4.size
  have B_w4 : Hid (Below w.heap.size w w4) := B_w3.out.trans (t4.below (by omega) B_w3.out.size)
  have W_w4 : Hid (OwnT w.heap.size w1.heap.size b1 V w4) := W_w3.out.out t4 (by omega)
  have Gm_w4 : Hid (OwnT w1.heap.size w2.heap.size b2 (tmarks V.length 1) w4) := o4
  clear B_w3 W_w3 G_w3 o4 t4
  have hm : decide (((1 + 3 * V.length : Nat) : Int) < 0) = false := decide_eq_false (by omega)
  go_wp2_with fail
  refine (held_ownT _ _ b2 c2 V.length _ hV Gm_w4.out).mono ?_
  rintro e w5 ⟨rfl, g5⟩
  have s_w5 := g5.size
  have B_w5 : Hid (Below w.heap.size w w5) := B_w4.out.trans (g5.mono B_w4.out.size)
  have W_w5 : Hid (OwnT w.heap.size w1.heap.size b1 V w5) := W_w4.out.below g5
  have Gm_w5 : Hid (OwnT w1.heap.size w2.heap.size b2 (tmarks V.length 1) w5) := Gm_w4.out.below g5
  clear B_w4 W_w4 Gm_w4 g5
  go_wp2_with fail
  refine (H11.out  _ ).mono ?_
  rintro e w6 ⟨b6, c6, rfl, o6, g6⟩
  have s_w6 := g6.size
  have B_w6 : Hid (Below w.heap.size w w6) := B_w5.out.trans (g6.mono B_w5.out.size)
  have W_w6 : Hid (OwnT w.heap.size w1.heap.size b1 V w6) := W_w5.out.below g6
  have Gm_w6 : Hid (OwnT w1.heap.size w2.heap.size b2 (tmarks V.length 1) w6) := Gm_w5.out.below g6
  have Q_w6 : Hid (OwnT w5.heap.size w6.heap.size b6 V w6) := o6
  clear B_w5 W_w5 Gm_w5 o6 g6
  go_wp2_with fail
  refine (eqPartS_same b6 b1 c6 c1 V _ hV Q_w6.out.ts W_w6.out.ts).mono ?_
  rintro e w7 ⟨rfl, g7⟩
  have s_w7 := g7.size
  have B_w7 : Hid (Below w.heap.size w w7) := B_w6.out.trans (g7.mono B_w6.out.size)
  have W_w7 : Hid (OwnT w.heap.size w1.heap.size b1 V w7) := W_w6.out.below g7
  have Gm_w7 : Hid (OwnT w1.heap.size w2.heap.size b2 (tmarks V.length 1) w7) := Gm_w6.out.below g7
  have Q_w7 : Hid (OwnT w5.heap.size w6.heap.size b6 V w7) := Q_w6.out.below g7
  clear B_w6 W_w6 Gm_w6 Q_w6 g7
  go_wp2_with fail
  refine (held_ownT _ _ b2 c2 V.length _ hV Gm_w7.out).mono ?_
  rintro e w8 ⟨rfl, g8⟩
  have s_w8 := g8.size
  have B_w8 : Hid (Below w.heap.size w w8) := B_w7.out.trans (g8.mono B_w7.out.size)
  have W_w8 : Hid (OwnT w.heap.size w1.heap.size b1 V w8) := W_w7.out.below g8
  have Gm_w8 : Hid (OwnT w1.heap.size w2.heap.size b2 (tmarks V.length 1) w8) := Gm_w7.out.below g8
  have Q_w8 : Hid (OwnT w5.heap.size w6.heap.size b6 V w8) := Q_w7.out.below g8
  clear B_w7 W_w7 Gm_w7 Q_w7 g8
  go_wp2_with fail
  go_ret
  exact ⟨rfl, B_w8.out⟩
theorem walk_DeltaOf (o s : ByteArray) (w : World) (ho : o.size ≤ 9223372036854775807) (hs : s.size ≤ 9223372036854775807) :
    Calls Try.prog 6 #[.string o, .string s] w fun e w' => e = .returned (.bool true) ∧ Below w.heap.size w w' :=
  law_DeltaOf o s w ho hs fun _ _ => ⟨dltV o s, dltOk o s, Nat.le_trans (dltV_len o s) (by decide), fun v => sDeltaOf_any o s v, fun v => iDelta_any o s v⟩
end Go.Proofs.Ytakhohabjcgpoaa
