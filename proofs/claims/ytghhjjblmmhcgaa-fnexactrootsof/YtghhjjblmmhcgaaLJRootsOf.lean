/- The exact law of RootsOf: its walk out of the contracts of the model and of the program. -/
import Derived.Test.YtghhjjblmmhcgaaJRoot
namespace Go.Proofs.Ytghhjjblmmhcgaa
set_option maxRecDepth 100000
open Go Go.ChangeShapes Go.WideShapes Go.ChangeAt Go.RowKit
set_option maxHeartbeats 8000000 in
theorem law_RootsOf (al : Option Addr) (cl : Nat) (l : List Int) (w : World) (hll : l.length ≤ 9223372036854775807) (hZl : Is w.heap.size al l w)
    (H : l.length ≤ 1048576 → ∃ (V : List Int) (ok : Bool), V.length ≤ 1048576 ∧ (∀ (ql : Option Addr) (dl : Nat) (v : World), Is v.heap.size ql l v → l.length ≤ dl → Calls Try.prog 21 #[.slice ql l.length dl] v fun e w' => ∃ b c, e = .returned (.tuple #[.slice b V.length c, .bool ok]) ∧ OwnJ v.heap.size w'.heap.size b V w' ∧ Below v.heap.size v w') ∧ (∀ (ql : Option Addr) (dl : Nat) (v : World), Is v.heap.size ql l v → l.length ≤ dl → Calls Try.prog 22 #[.slice ql l.length dl] v fun e w' => ∃ b c, e = .returned (.tuple #[.slice b V.length c, .bool ok]) ∧ OwnJ v.heap.size w'.heap.size b V w' ∧ Below v.heap.size v w')) :
    Calls Try.prog 7 #[.slice al l.length cl] w fun e w' => e = .returned (.bool true) ∧ Below w.heap.size w w' := by
  have HH : Hid (l.length ≤ 1048576 → ∃ (V : List Int) (ok : Bool), V.length ≤ 1048576 ∧ (∀ (ql : Option Addr) (dl : Nat) (v : World), Is v.heap.size ql l v → l.length ≤ dl → Calls Try.prog 21 #[.slice ql l.length dl] v fun e w' => ∃ b c, e = .returned (.tuple #[.slice b V.length c, .bool ok]) ∧ OwnJ v.heap.size w'.heap.size b V w' ∧ Below v.heap.size v w') ∧ (∀ (ql : Option Addr) (dl : Nat) (v : World), Is v.heap.size ql l v → l.length ≤ dl → Calls Try.prog 22 #[.slice ql l.length dl] v fun e w' => ∃ b c, e = .returned (.tuple #[.slice b V.length c, .bool ok]) ∧ OwnJ v.heap.size w'.heap.size b V w' ∧ Below v.heap.size v w')) := H
  have HZl : Hid (∀ v, Below w.heap.size w v → Is v.heap.size al l v) := fun v g => (hZl.below g).mono g.size
  have HNl := hid hll
  clear hZl hll
  clear H
  have B_w : Hid (Below w.heap.size w w) := Below.refl _ _
  go_enter Try.func7, Try.ntmps7
  by_cases hnl : l.length ≤ 1048576
  case neg =>
    have hdl : decide ((1048576 : Int) < (l.length : Int)) = true := decide_eq_true (by omega)
    go_wp2_with fail
    go_ret
    exact ⟨rfl, B_w.out⟩
  have hdl : decide ((1048576 : Int) < (l.length : Int)) = false := decide_eq_false (by omega)
  have HLl := hid hnl
  clear HNl
  obtain ⟨V, ok, hV, h9, h11⟩ := HH.out HLl.out
  have H9 := hid h9
  have H11 := hid h11
  clear h9 h11 HH
  have hbk : (ok != ok) = false := by cases ok <;> rfl
  go_wp2_with fail
  refine (to_capI al cl l _ HLl.out (HZl.out _ B_w.out)).mono ?_
  rintro e w1 ⟨b1, c1, rfl, o1, g1, k1⟩
  have K1 := hid k1
  clear k1
  have s_w1 := g1.size
  have B_w1 : Hid (Below w.heap.size w w1) := B_w.out.trans (g1.mono B_w.out.size)
  have T0_w1 : Hid (OwnI w.heap.size w1.heap.size b1 l w1) := o1
  clear B_w o1 g1
  go_wp2_with fail
  refine (H9.out b1 c1 _ T0_w1.out.is K1.out).mono ?_
  rintro e w2 ⟨b2, c2, rfl, o2, g2⟩
  have s_w2 := g2.size
  have B_w2 : Hid (Below w.heap.size w w2) := B_w1.out.trans (g2.mono B_w1.out.size)
  have W_w2 : Hid (OwnJ w1.heap.size w2.heap.size b2 V w2) := o2
  clear B_w1 T0_w1 o2 g2
  clear H9
  go_wp2_with fail
  refine (to_capI al cl l _ HLl.out (HZl.out _ B_w2.out)).mono ?_
  rintro e w3 ⟨b3, c3, rfl, o3, g3, k3⟩
  have K3 := hid k3
  clear k3
  have s_w3 := g3.size
  have B_w3 : Hid (Below w.heap.size w w3) := B_w2.out.trans (g3.mono B_w2.out.size)
  have W_w3 : Hid (OwnJ w1.heap.size w2.heap.size b2 V w3) := W_w2.out.below g3
  have X0_w3 : Hid (OwnI w2.heap.size w3.heap.size b3 l w3) := o3
  clear B_w2 W_w2 o3 g3
  go_wp2_with fail
  refine (H11.out b3 c3 _ X0_w3.out.is K3.out).mono ?_
  rintro e w4 ⟨b4, c4, rfl, o4, g4⟩
  have s_w4 := g4.size
  have B_w4 : Hid (Below w.heap.size w w4) := B_w3.out.trans (g4.mono B_w3.out.size)
  have W_w4 : Hid (OwnJ w1.heap.size w2.heap.size b2 V w4) := W_w3.out.below g4
  have X0_w4 : Hid (OwnI w2.heap.size w3.heap.size b3 l w4) := X0_w3.out.below g4
  have G_w4 : Hid (OwnJ w3.heap.size w4.heap.size b4 V w4) := o4
  clear B_w3 W_w3 X0_w3 o4 g4
  go_wp2_with fail
  refine (eqIntS_same b4 b2 c4 c2 V _ hV G_w4.out.is W_w4.out.is).mono ?_
  rintro e w5 ⟨rfl, g5⟩
  have s_w5 := g5.size
  have B_w5 : Hid (Below w.heap.size w w5) := B_w4.out.trans (g5.mono B_w4.out.size)
  have W_w5 : Hid (OwnJ w1.heap.size w2.heap.size b2 V w5) := W_w4.out.below g5
  have X0_w5 : Hid (OwnI w2.heap.size w3.heap.size b3 l w5) := X0_w4.out.below g5
  have G_w5 : Hid (OwnJ w3.heap.size w4.heap.size b4 V w5) := G_w4.out.below g5
  clear B_w4 W_w4 X0_w4 G_w4 g5
  go_wp2_with fail
  refine (to_capI al cl l _ HLl.out (HZl.out _ B_w5.out)).mono ?_
  rintro e w6 ⟨b6, c6, rfl, o6, g6, k6⟩
  have K6 := hid k6
  clear k6
  have s_w6 := g6.size
  have B_w6 : Hid (Below w.heap.size w w6) := B_w5.out.trans (g6.mono B_w5.out.size)
  have W_w6 : Hid (OwnJ w1.heap.size w2.heap.size b2 V w6) := W_w5.out.below g6
  have X0_w6 : Hid (OwnI w2.heap.size w3.heap.size b3 l w6) := X0_w5.out.below g6
  have G_w6 : Hid (OwnJ w3.heap.size w4.heap.size b4 V w6) := G_w5.out.below g6
  have Y_w6 : Hid (OwnI w5.heap.size w6.heap.size b6 l w6) := o6
  clear B_w5 W_w5 X0_w5 G_w5 o6 g6
  go_wp2_with fail
  refine (eqIntS_same b3 b6 c3 c6 l _ HLl.out X0_w6.out.is Y_w6.out.is).mono ?_
  rintro e w7 ⟨rfl, g7⟩
  have s_w7 := g7.size
  have B_w7 : Hid (Below w.heap.size w w7) := B_w6.out.trans (g7.mono B_w6.out.size)
  have W_w7 : Hid (OwnJ w1.heap.size w2.heap.size b2 V w7) := W_w6.out.below g7
  have X0_w7 : Hid (OwnI w2.heap.size w3.heap.size b3 l w7) := X0_w6.out.below g7
  have G_w7 : Hid (OwnJ w3.heap.size w4.heap.size b4 V w7) := G_w6.out.below g7
  clear B_w6 W_w6 X0_w6 G_w6 Y_w6 g7
  have HLl0 := HLl.out
  have u0 : 1 ≤ 1 + l.length := by omega
  have v0 : 1 + l.length ≤ 4000000 := by omega
  have hk0 : decide (((1 + l.length : Nat) : Int) < 0) = false := decide_eq_false (by omega)
  go_wp2_with fail
  refine (mark_ownI _ _ b3 c3 l _ HLl.out 1 (Nat.le_refl _) (by omega) X0_w7.out).mono ?_
  rintro e w8 ⟨rfl, o8, t8⟩
  have s_w8 := t8.size
  have B_w8 : Hid (Below w.heap.size w w8) := B_w7.out.trans (t8.below (by omega) B_w7.out.size)
  have W_w8 : Hid (OwnJ w1.heap.size w2.heap.size b2 V w8) := W_w7.out.out t8 (by omega)
  have G_w8 : Hid (OwnJ w3.heap.size w4.heap.size b4 V w8) := G_w7.out.out t8 (by omega)
  clear B_w7 W_w7 X0_w7 G_w7 o8 t8
  generalize 1 + l.length = m0 at *
  clear HLl0
  go_wp2_with fail
  refine (eqIntS_same b4 b2 c4 c2 V _ hV G_w8.out.is W_w8.out.is).mono ?_
  rintro e w9 ⟨rfl, g9⟩
  have s_w9 := g9.size
  have B_w9 : Hid (Below w.heap.size w w9) := B_w8.out.trans (g9.mono B_w8.out.size)
  have W_w9 : Hid (OwnJ w1.heap.size w2.heap.size b2 V w9) := W_w8.out.below g9
  have G_w9 : Hid (OwnJ w3.heap.size w4.heap.size b4 V w9) := G_w8.out.below g9
  clear B_w8 W_w8 G_w8 g9
  go_wp2_with fail
  refine (mark_ownJ _ _ b4 c4 V _ hV 1 (Nat.le_refl _) (by omega) G_w9.out).mono ?_
  rintro e w10 ⟨rfl, o10, t10⟩
  have s_w10 := t10.size
  have B_w10 : Hid (Below w.heap.size w w10) := B_w9.out.trans (t10.below (by omega) B_w9.out.size)
  have W_w10 : Hid (OwnJ w1.heap.size w2.heap.size b2 V w10) := W_w9.out.out t10 (by omega)
  have Gm_w10 : Hid (OwnJ w3.heap.size w4.heap.size b4 (imarks V.length 1) w10) := o10
  clear B_w9 W_w9 G_w9 o10 t10
  have hm : decide (((1 + V.length : Nat) : Int) < 0) = false := decide_eq_false (by omega)
  go_wp2_with fail
  refine (held_ownJ _ _ b4 c4 V.length _ hV Gm_w10.out).mono ?_
  rintro e w11 ⟨rfl, g11⟩
  have s_w11 := g11.size
  have B_w11 : Hid (Below w.heap.size w w11) := B_w10.out.trans (g11.mono B_w10.out.size)
  have W_w11 : Hid (OwnJ w1.heap.size w2.heap.size b2 V w11) := W_w10.out.below g11
  have Gm_w11 : Hid (OwnJ w3.heap.size w4.heap.size b4 (imarks V.length 1) w11) := Gm_w10.out.below g11
  clear B_w10 W_w10 Gm_w10 g11
  go_wp2_with fail
  refine (to_capI al cl l _ HLl.out (HZl.out _ B_w11.out)).mono ?_
  rintro e w12 ⟨b12, c12, rfl, o12, g12, k12⟩
  have K12 := hid k12
  clear k12
  have s_w12 := g12.size
  have B_w12 : Hid (Below w.heap.size w w12) := B_w11.out.trans (g12.mono B_w11.out.size)
  have W_w12 : Hid (OwnJ w1.heap.size w2.heap.size b2 V w12) := W_w11.out.below g12
  have Gm_w12 : Hid (OwnJ w3.heap.size w4.heap.size b4 (imarks V.length 1) w12) := Gm_w11.out.below g12
  have T0_w12 : Hid (OwnI w11.heap.size w12.heap.size b12 l w12) := o12
  clear B_w11 W_w11 Gm_w11 o12 g12
  go_wp2_with fail
  refine (H11.out b12 c12 _ T0_w12.out.is K12.out).mono ?_
  rintro e w13 ⟨b13, c13, rfl, o13, g13⟩
  have s_w13 := g13.size
  have B_w13 : Hid (Below w.heap.size w w13) := B_w12.out.trans (g13.mono B_w12.out.size)
  have W_w13 : Hid (OwnJ w1.heap.size w2.heap.size b2 V w13) := W_w12.out.below g13
  have Gm_w13 : Hid (OwnJ w3.heap.size w4.heap.size b4 (imarks V.length 1) w13) := Gm_w12.out.below g13
  have T0_w13 : Hid (OwnI w11.heap.size w12.heap.size b12 l w13) := T0_w12.out.below g13
  have Q_w13 : Hid (OwnJ w12.heap.size w13.heap.size b13 V w13) := o13
  clear B_w12 W_w12 Gm_w12 T0_w12 o13 g13
  go_wp2_with fail
  refine (eqIntS_same b13 b2 c13 c2 V _ hV Q_w13.out.is W_w13.out.is).mono ?_
  rintro e w14 ⟨rfl, g14⟩
  have s_w14 := g14.size
  have B_w14 : Hid (Below w.heap.size w w14) := B_w13.out.trans (g14.mono B_w13.out.size)
  have W_w14 : Hid (OwnJ w1.heap.size w2.heap.size b2 V w14) := W_w13.out.below g14
  have Gm_w14 : Hid (OwnJ w3.heap.size w4.heap.size b4 (imarks V.length 1) w14) := Gm_w13.out.below g14
  have T0_w14 : Hid (OwnI w11.heap.size w12.heap.size b12 l w14) := T0_w13.out.below g14
  have Q_w14 : Hid (OwnJ w12.heap.size w13.heap.size b13 V w14) := Q_w13.out.below g14
  clear B_w13 W_w13 Gm_w13 T0_w13 Q_w13 g14
  go_wp2_with fail
  refine (held_ownJ _ _ b4 c4 V.length _ hV Gm_w14.out).mono ?_
  rintro e w15 ⟨rfl, g15⟩
  have s_w15 := g15.size
  have B_w15 : Hid (Below w.heap.size w w15) := B_w14.out.trans (g15.mono B_w14.out.size)
  have W_w15 : Hid (OwnJ w1.heap.size w2.heap.size b2 V w15) := W_w14.out.below g15
  have Gm_w15 : Hid (OwnJ w3.heap.size w4.heap.size b4 (imarks V.length 1) w15) := Gm_w14.out.below g15
  have T0_w15 : Hid (OwnI w11.heap.size w12.heap.size b12 l w15) := T0_w14.out.below g15
  have Q_w15 : Hid (OwnJ w12.heap.size w13.heap.size b13 V w15) := Q_w14.out.below g15
  clear B_w14 W_w14 Gm_w14 T0_w14 Q_w14 g15
  go_wp2_with fail
  go_ret
  exact ⟨rfl, B_w15.out⟩
theorem walk_RootsOf (a : Option Addr) (cap : Nat) (l : List Int) (w : World) (_hs : ∀ x ∈ l, fit x) (hl : l.length ≤ 9223372036854775807) (hZ : Is w.heap.size a l w) :
    Calls Try.prog 7 #[.slice a l.length cap] w fun e w' => e = .returned (.bool true) ∧ Below w.heap.size w w' :=
  law_RootsOf a cap l w hl hZ fun hn => ⟨rootV l, rootOk l, Nat.le_trans (rootV_len l) (by decide), fun q d v hv _ => (sRoot_any q d l v hn hv).mono (fun _ _ h => by obtain ⟨b, c, h1, h2, h3, _⟩ := h; exact ⟨b, c, h1, h2, h3⟩), fun q d v hv _ => (iRoot_any q d l v hn hv).mono (fun _ _ h => by obtain ⟨b, c, h1, h2, h3, _⟩ := h; exact ⟨b, c, h1, h2, h3⟩)⟩
end Go.Proofs.Ytghhjjblmmhcgaa
