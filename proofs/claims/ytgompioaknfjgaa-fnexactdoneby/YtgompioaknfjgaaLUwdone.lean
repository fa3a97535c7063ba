/- The exact law of DoneBy: its walk out of the contracts of the model and of the program. -/
import Derived.Test.YtgompioaknfjgaaUwDi
import Derived.Test.YtgompioaknfjgaaUwLx
import Derived.Test.YtgompioaknfjgaaUwO
namespace Go.Proofs.Ytgompioaknfjgaa
set_option maxRecDepth 100000
open Go Go.ChangeShapes Go.WideShapes Go.ChangeAt Go.RowKit
set_option maxHeartbeats 8000000 in
theorem law_DoneBy (al : Option Addr) (cl : Nat) (l : List Nt) (w : World) (hfl : True) (hll : l.length ≤ 9223372036854775807) (hZl : Nts w.heap.size al l w)
    (H : l.length ≤ 1048576 → ∃ (V : List Int) (ok : Bool), V.length ≤ 1048576 ∧ (∀ (ql : Option Addr) (dl : Nat) (v : World), Nts v.heap.size ql l v → l.length ≤ dl → Calls Try.prog 33 #[.slice ql l.length dl] v fun e w' => ∃ b c, e = .returned (.tuple #[.slice b V.length c, .bool ok]) ∧ OwnI v.heap.size w'.heap.size b V w' ∧ Below v.heap.size v w') ∧ (∀ (ql : Option Addr) (dl : Nat) (v : World), Nts v.heap.size ql l v → l.length ≤ dl → Calls Try.prog 35 #[.slice ql l.length dl] v fun e w' => ∃ b c, e = .returned (.tuple #[.slice b V.length c, .bool ok]) ∧ OwnI v.heap.size w'.heap.size b V w' ∧ Below v.heap.size v w')) :
    Calls Try.prog 8 #[.slice al l.length cl] w fun e w' => e = .returned (.bool true) ∧ Below w.heap.size w w' := by
  have HH : Hid (l.length ≤ 1048576 → ∃ (V : List Int) (ok : Bool), V.length ≤ 1048576 ∧ (∀ (ql : Option Addr) (dl : Nat) (v : World), Nts v.heap.size ql l v → l.length ≤ dl → Calls Try.prog 33 #[.slice ql l.length dl] v fun e w' => ∃ b c, e = .returned (.tuple #[.slice b V.length c, .bool ok]) ∧ OwnI v.heap.size w'.heap.size b V w' ∧ Below v.heap.size v w') ∧ (∀ (ql : Option Addr) (dl : Nat) (v : World), Nts v.heap.size ql l v → l.length ≤ dl → Calls Try.prog 35 #[.slice ql l.length dl] v fun e w' => ∃ b c, e = .returned (.tuple #[.slice b V.length c, .bool ok]) ∧ OwnI v.heap.size w'.heap.size b V w' ∧ Below v.heap.size v w')) := H
  have HZl : Hid (∀ v, Below w.heap.size w v → Nts v.heap.size al l v) := fun v g => (hZl.below g).mono g.size
  have HFl := hid hfl
  clear hfl
  have HNl := hid hll
  clear hZl hll
  clear H
  have B_w : Hid (Below w.heap.size w w) := Below.refl _ _
  go_enter Try.func8, Try.ntmps8
  go_wp2_with fail
  refine (szNoteS_l al cl l 1048576 w (by decide) (by decide) HFl.out HNl.out (HZl.out _ B_w.out)).mono ?_
  rintro e w1 ⟨⟨r1, rfl, x1, hr1⟩, g1⟩
  have s_w1 := g1.size
  have B_w1 : Hid (Below w.heap.size w w1) := B_w.out.trans (g1.mono B_w.out.size)
  clear B_w g1
  by_cases p1 : 0 ≤ r1
  case neg =>
    have hd1 : decide (r1 < 0) = true := decide_eq_true (by omega)
    clear hr1
    go_wp2_with fail
    go_ret
    exact ⟨rfl, B_w1.out⟩
  have hd1 : decide (r1 < 0) = false := decide_eq_false (by omega)
  have HLl : Hid (l.length ≤ 1048576) := hr1 p1
  clear hr1 HFl HNl
  obtain ⟨V, ok, hV, h9, h11⟩ := HH.out HLl.out
  have H9 := hid h9
  have H11 := hid h11
  clear h9 h11 HH
  have hbk : (ok != ok) = false := by cases ok <;> rfl
  go_wp2_with fail
  refine (to_OwnNtk al cl l _ HLl.out (HZl.out _ B_w1.out)).mono ?_
  rintro e w2 ⟨b2, rfl, o2, g2⟩
  have s_w2 := g2.size
  have B_w2 : Hid (Below w.heap.size w w2) := B_w1.out.trans (g2.mono B_w1.out.size)
  have T0_w2 : Hid (OwnNt w1.heap.size w2.heap.size b2 l w2) := o2
  clear B_w1 o2 g2
  go_wp2_with fail
  refine (H9.out b2 l.length _ T0_w2.out.ps (Nat.le_refl _)).mono ?_
  rintro e w3 ⟨b3, c3, rfl, o3, g3⟩
  have s_w3 := g3.size
  have B_w3 : Hid (Below w.heap.size w w3) := B_w2.out.trans (g3.mono B_w2.out.size)
  have W_w3 : Hid (OwnI w2.heap.size w3.heap.size b3 V w3) := o3
  clear B_w2 T0_w2 o3 g3
  clear H9
  go_wp2_with fail
  refine (to_OwnNtk al cl l _ HLl.out (HZl.out _ B_w3.out)).mono ?_
  rintro e w4 ⟨b4, rfl, o4, g4⟩
  have s_w4 := g4.size
  have B_w4 : Hid (Below w.heap.size w w4) := B_w3.out.trans (g4.mono B_w3.out.size)
  have W_w4 : Hid (OwnI w2.heap.size w3.heap.size b3 V w4) := W_w3.out.below g4
  have X0_w4 : Hid (OwnNt w3.heap.size w4.heap.size b4 l w4) := o4
  clear B_w3 W_w3 o4 g4
  go_wp2_with fail
  refine (H11.out b4 l.length _ X0_w4.out.ps (Nat.le_refl _)).mono ?_
  rintro e w5 ⟨b5, c5, rfl, o5, g5⟩
  have s_w5 := g5.size
  have B_w5 : Hid (Below w.heap.size w w5) := B_w4.out.trans (g5.mono B_w4.out.size)
  have W_w5 : Hid (OwnI w2.heap.size w3.heap.size b3 V w5) := W_w4.out.below g5
  have X0_w5 : Hid (OwnNt w3.heap.size w4.heap.size b4 l w5) := X0_w4.out.below g5
  have G_w5 : Hid (OwnI w4.heap.size w5.heap.size b5 V w5) := o5
  clear B_w4 W_w4 X0_w4 o5 g5
  go_wp2_with fail
  refine (eqIntS_same b5 b3 c5 c3 V _ hV G_w5.out.is W_w5.out.is).mono ?_
  rintro e w6 ⟨rfl, g6⟩
  have s_w6 := g6.size
  have B_w6 : Hid (Below w.heap.size w w6) := B_w5.out.trans (g6.mono B_w5.out.size)
  have W_w6 : Hid (OwnI w2.heap.size w3.heap.size b3 V w6) := W_w5.out.below g6
  have X0_w6 : Hid (OwnNt w3.heap.size w4.heap.size b4 l w6) := X0_w5.out.below g6
  have G_w6 : Hid (OwnI w4.heap.size w5.heap.size b5 V w6) := G_w5.out.below g6
  clear B_w5 W_w5 X0_w5 G_w5 g6
  go_wp2_with fail
  refine (to_OwnNtk al cl l _ HLl.out (HZl.out _ B_w6.out)).mono ?_
  rintro e w7 ⟨b7, rfl, o7, g7⟩
  have s_w7 := g7.size
  have B_w7 : Hid (Below w.heap.size w w7) := B_w6.out.trans (g7.mono B_w6.out.size)
  have W_w7 : Hid (OwnI w2.heap.size w3.heap.size b3 V w7) := W_w6.out.below g7
  have X0_w7 : Hid (OwnNt w3.heap.size w4.heap.size b4 l w7) := X0_w6.out.below g7
  have G_w7 : Hid (OwnI w4.heap.size w5.heap.size b5 V w7) := G_w6.out.below g7
  have Y_w7 : Hid (OwnNt w6.heap.size w7.heap.size b7 l w7) := o7
  clear B_w6 W_w6 X0_w6 G_w6 o7 g7
  go_wp2_with fail
  refine (eqNoteS_same b4 b7 l.length l.length l _ HLl.out X0_w7.out.ps Y_w7.out.ps).mono ?_
  rintro e w8 ⟨rfl, g8⟩
  have s_w8 := g8.size
  have B_w8 : Hid (Below w.heap.size w w8) := B_w7.out.trans (g8.mono B_w7.out.size)
  have W_w8 : Hid (OwnI w2.heap.size w3.heap.size b3 V w8) := W_w7.out.below g8
  have X0_w8 : Hid (OwnNt w3.heap.size w4.heap.size b4 l w8) := X0_w7.out.below g8
  have G_w8 : Hid (OwnI w4.heap.size w5.heap.size b5 V w8) := G_w7.out.below g8
  clear B_w7 W_w7 X0_w7 G_w7 Y_w7 g8
  have HLl0 := HLl.out
  have u0 : 1 ≤ 1 + 5 * l.length := by omega
  have v0 : 1 + 5 * l.length ≤ 8000000 := by omega
  have hk0 : decide (((1 + 5 * l.length : Nat) : Int) < 0) = false := decide_eq_false (by omega)
  go_wp2_with fail
  refine (mark_OwnNt _ _ b4 l.length 1 l _ HLl.out (Nat.le_refl _) (by decide) X0_w8.out).mono ?_
  rintro e w9 ⟨rfl, o9, t9⟩
  have s_w9 := t9.size
  have B_w9 : Hid (Below w.heap.size w w9) := B_w8.out.trans (t9.below (by omega) B_w8.out.size)
  have W_w9 : Hid (OwnI w2.heap.size w3.heap.size b3 V w9) := W_w8.out.out t9 (by omega)
  have G_w9 : Hid (OwnI w4.heap.size w5.heap.size b5 V w9) := G_w8.out.out t9 (by omega)
  clear B_w8 W_w8 X0_w8 G_w8 o9 t9
  generalize 1 + 5 * l.length = m0 at *
  clear HLl0
  go_wp2_with fail
  refine (eqIntS_same b5 b3 c5 c3 V _ hV G_w9.out.is W_w9.out.is).mono ?_
  rintro e w10 ⟨rfl, g10⟩
  have s_w10 := g10.size
  have B_w10 : Hid (Below w.heap.size w w10) := B_w9.out.trans (g10.mono B_w9.out.size)
  have W_w10 : Hid (OwnI w2.heap.size w3.heap.size b3 V w10) := W_w9.out.below g10
  have G_w10 : Hid (OwnI w4.heap.size w5.heap.size b5 V w10) := G_w9.out.below g10
  clear B_w9 W_w9 G_w9 g10
  go_wp2_with fail
  refine (mark_ownI _ _ b5 c5 V _ hV 1 (Nat.le_refl _) (by omega) G_w10.out).mono ?_
  rintro e w11 ⟨rfl, o11, t11⟩
  have s_w11 := t11.size
  have B_w11 : Hid (Below w.heap.size w w11) := B_w10.out.trans (t11.below (by omega) B_w10.out.size)
  have W_w11 : Hid (OwnI w2.heap.size w3.heap.size b3 V w11) := W_w10.out.out t11 (by omega)
  have Gm_w11 : Hid (OwnI w4.heap.size w5.heap.size b5 (imarks V.length 1) w11) := o11
  clear B_w10 W_w10 G_w10 o11 t11
  have hm : decide (((1 + V.length : Nat) : Int) < 0) = false := decide_eq_false (by omega)
  go_wp2_with fail
  refine (held_ownI _ _ b5 c5 V.length _ hV Gm_w11.out).mono ?_
  rintro e w12 ⟨rfl, g12⟩
  have s_w12 := g12.size
  have B_w12 : Hid (Below w.heap.size w w12) := B_w11.out.trans (g12.mono B_w11.out.size)
  have W_w12 : Hid (OwnI w2.heap.size w3.heap.size b3 V w12) := W_w11.out.below g12
  have Gm_w12 : Hid (OwnI w4.heap.size w5.heap.size b5 (imarks V.length 1) w12) := Gm_w11.out.below g12
  clear B_w11 W_w11 Gm_w11 g12
  go_wp2_with fail
  refine (to_OwnNtk al cl l _ HLl.out (HZl.out _ B_w12.out)).mono ?_
  rintro e w13 ⟨b13, rfl, o13, g13⟩
  have s_w13 := g13.size
  have B_w13 : Hid (Below w.heap.size w w13) := B_w12.out.trans (g13.mono B_w12.out.size)
  have W_w13 : Hid (OwnI w2.heap.size w3.heap.size b3 V w13) := W_w12.out.below g13
  have Gm_w13 : Hid (OwnI w4.heap.size w5.heap.size b5 (imarks V.length 1) w13) := Gm_w12.out.below g13
  have T0_w13 : Hid (OwnNt w12.heap.size w13.heap.size b13 l w13) := o13
  clear B_w12 W_w12 Gm_w12 o13 g13
  go_wp2_with fail
  refine (H11.out b13 l.length _ T0_w13.out.ps (Nat.le_refl _)).mono ?_
  rintro e w14 ⟨b14, c14, rfl, o14, g14⟩
  have s_w14 := g14.size
  have B_w14 : Hid (Below w.heap.size w w14) := B_w13.out.trans (g14.mono B_w13.out.size)
  have W_w14 : Hid (OwnI w2.heap.size w3.heap.size b3 V w14) := W_w13.out.below g14
  have Gm_w14 : Hid (OwnI w4.heap.size w5.heap.size b5 (imarks V.length 1) w14) := Gm_w13.out.below g14
  have T0_w14 : Hid (OwnNt w12.heap.size w13.heap.size b13 l w14) := T0_w13.out.below g14
  have Q_w14 : Hid (OwnI w13.heap.size w14.heap.size b14 V w14) := o14
  clear B_w13 W_w13 Gm_w13 T0_w13 o14 g14
  go_wp2_with fail
  refine (eqIntS_same b14 b3 c14 c3 V _ hV Q_w14.out.is W_w14.out.is).mono ?_
  rintro e w15 ⟨rfl, g15⟩
  have s_w15 := g15.size
  have B_w15 : Hid (Below w.heap.size w w15) := B_w14.out.trans (g15.mono B_w14.out.size)
  have W_w15 : Hid (OwnI w2.heap.size w3.heap.size b3 V w15) := W_w14.out.below g15
  have Gm_w15 : Hid (OwnI w4.heap.size w5.heap.size b5 (imarks V.length 1) w15) := Gm_w14.out.below g15
  have T0_w15 : Hid (OwnNt w12.heap.size w13.heap.size b13 l w15) := T0_w14.out.below g15
  have Q_w15 : Hid (OwnI w13.heap.size w14.heap.size b14 V w15) := Q_w14.out.below g15
  clear B_w14 W_w14 Gm_w14 T0_w14 Q_w14 g15
  go_wp2_with fail
  refine (held_ownI _ _ b5 c5 V.length _ hV Gm_w15.out).mono ?_
  rintro e w16 ⟨rfl, g16⟩
  have s_w16 := g16.size
  have B_w16 : Hid (Below w.heap.size w w16) := B_w15.out.trans (g16.mono B_w15.out.size)
  have W_w16 : Hid (OwnI w2.heap.size w3.heap.size b3 V w16) := W_w15.out.below g16
  have Gm_w16 : Hid (OwnI w4.heap.size w5.heap.size b5 (imarks V.length 1) w16) := Gm_w15.out.below g16
  have T0_w16 : Hid (OwnNt w12.heap.size w13.heap.size b13 l w16) := T0_w15.out.below g16
  have Q_w16 : Hid (OwnI w13.heap.size w14.heap.size b14 V w16) := Q_w15.out.below g16
  clear B_w15 W_w15 Gm_w15 T0_w15 Q_w15 g16
  go_wp2_with fail
  go_ret
  exact ⟨rfl, B_w16.out⟩
theorem doneV_len (l : List Nt) : (doneV l).length ≤ 1048576 := by
  unfold doneV
  cases h : doneOk l
  · exact Nat.zero_le _
  · have h2 := h
    unfold doneOk at h2
    rw [Bool.and_eq_true] at h2
    have := of_decide_eq_true h2.1
    have h3 := dnF_len l []
    rw [List.length_nil] at h3
    show (dnF [] l).length ≤ _
    omega
theorem walk_DoneBy (a : Option Addr) (c : Nat) (l : List Nt) (w : World) (hZ : Nts w.heap.size a l w) (hl : l.length ≤ 9223372036854775807) :
    Calls Try.prog 8 #[.slice a l.length c] w fun e w' => e = .returned (.bool true) ∧ Below w.heap.size w w' :=
  law_DoneBy a c l w trivial hl hZ fun hn => ⟨doneV l, doneOk l, doneV_len l, fun q d v hv _ => sdone_any q d l v hn hv, fun q d v hv _ => idone_any q d l v hn hv⟩
end Go.Proofs.Ytgompioaknfjgaa
