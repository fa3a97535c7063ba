/- The exact law of IsMajority: its walk out of the contracts of the model and of the program. -/
import Derived.Test.YtikmkkklgdkpaabFcMaj
namespace Go.Proofs.Ytikmkkklgdkpaab
set_option maxRecDepth 100000
open Go Go.ChangeShapes Go.WideShapes Go.ChangeAt Go.RowKit
/-- function f answers so -/
def TellsIsMajority (f : Nat) (l : List Int) (x : Int) (y : Bool) (ok : Bool) : Prop := ∀ (q : Option Addr) (d : Nat) (v : World), Is v.heap.size q l v → l.length ≤ d →
  Calls Try.prog f #[.int .i64 x, .slice q l.length d] v fun e w' => e = .returned (.tuple #[.bool y, .bool ok]) ∧ Below v.heap.size v w'
set_option maxHeartbeats 8000000 in
theorem law_IsMajority (x : Int) (a : Option Addr) (cap : Nat) (l : List Int) (w : World) (_hl : l.length ≤ 9223372036854775807) (hZ : Is w.heap.size a l w)
    (H : l.length ≤ 1048576 → ∃ (y : Bool) (ok : Bool), TellsIsMajority 4 l x y ok ∧ TellsIsMajority 6 l x y ok) :
    Calls Try.prog 3 #[.int .i64 x, .slice a l.length cap] w fun e w' => e = .returned (.bool true) ∧ Below w.heap.size w w' := by
  have HH : Hid (l.length ≤ 1048576 → ∃ (y : Bool) (ok : Bool), TellsIsMajority 4 l x y ok ∧ TellsIsMajority 6 l x y ok) := H
  have HZ : Hid (∀ v, Below w.heap.size w v → Is v.heap.size a l v) := fun v g => (hZ.below g).mono g.size
  clear hZ H
  go_enter Try.func3, Try.ntmps3
  by_cases hn : l.length ≤ 1048576
  case neg =>
    have hd1 : decide ((1048576 : Int) < (l.length : Int)) = true := decide_eq_true (by omega)
    go_wp2
    go_ret
    exact ⟨rfl, Below.refl _ _⟩
  have hd1 : decide ((1048576 : Int) < (l.length : Int)) = false := decide_eq_false (by omega)
  obtain ⟨y, ok, h9, h11⟩ := HH.out hn
  have H9 : Hid (TellsIsMajority 4 l x y ok) := h9
  have H11 : Hid (TellsIsMajority 6 l x y ok) := h11
  clear h9 h11 HH
  have B_w : Hid (Below w.heap.size w w) := Below.refl _ _
  go_wp2_with fail
  refine (to_capI a cap l _ hn (HZ.out _ B_w.out)).mono ?_
  rintro e w1 ⟨b1, c1, rfl, o1, g1, k1⟩
  have K1 := hid k1
  clear k1
  have s_w1 := g1.size
  have B_w1 : Hid (Below w.heap.size w w1) := B_w.out.trans (g1.mono B_w.out.size)
  have T_w1 : Hid (OwnI w.heap.size w1.heap.size b1 l w1) := o1
  clear B_w o1 g1
  go_wp2_with fail
  refine (H9.out b1 c1 _ T_w1.out.is K1.out).mono ?_
  rintro e w2 ⟨rfl, g2⟩
  have s_w2 := g2.size
  have B_w2 : Hid (Below w.heap.size w w2) := B_w1.out.trans (g2.mono B_w1.out.size)
  clear B_w1 T_w1 g2
  clear H9
  go_wp2_with fail
  refine (to_capI a cap l _ hn (HZ.out _ B_w2.out)).mono ?_
  rintro e w3 ⟨b3, c3, rfl, o3, g3, k3⟩
  have K3 := hid k3
  clear k3
  have s_w3 := g3.size
  have B_w3 : Hid (Below w.heap.size w w3) := B_w2.out.trans (g3.mono B_w2.out.size)
  have X_w3 : Hid (OwnI w2.heap.size w3.heap.size b3 l w3) := o3
  clear B_w2 o3 g3
  go_wp2_with fail
  refine (H11.out b3 c3 _ X_w3.out.is K3.out).mono ?_
  rintro e w4 ⟨rfl, g4⟩
  have s_w4 := g4.size
  have B_w4 : Hid (Below w.heap.size w w4) := B_w3.out.trans (g4.mono B_w3.out.size)
  have X_w4 : Hid (OwnI w2.heap.size w3.heap.size b3 l w4) := X_w3.out.below g4
  clear B_w3 X_w3 g4
  go_wp2_with fail
  refine (to_capI a cap l _ hn (HZ.out _ B_w4.out)).mono ?_
  rintro e w5 ⟨b5, c5, rfl, o5, g5, k5⟩
  have K5 := hid k5
  clear k5
  have s_w5 := g5.size
  have B_w5 : Hid (Below w.heap.size w w5) := B_w4.out.trans (g5.mono B_w4.out.size)
  have X_w5 : Hid (OwnI w2.heap.size w3.heap.size b3 l w5) := X_w4.out.below g5
  have Y_w5 : Hid (OwnI w4.heap.size w5.heap.size b5 l w5) := o5
  clear B_w4 X_w4 o5 g5
  go_wp2_with fail
  refine (eqIntS_same b3 b5 c3 c5 l _ hn X_w5.out.is Y_w5.out.is).mono ?_
  rintro e w6 ⟨rfl, g6⟩
  have s_w6 := g6.size
  have B_w6 : Hid (Below w.heap.size w w6) := B_w5.out.trans (g6.mono B_w5.out.size)
  have X_w6 : Hid (OwnI w2.heap.size w3.heap.size b3 l w6) := X_w5.out.below g6
  clear B_w5 X_w5 Y_w5 g6
  go_wp2
  go_ret
  exact ⟨rfl, B_w6.out⟩
theorem walk_IsMajority (x : Int) (a : Option Addr) (cap : Nat) (l : List Int) (w : World) (_h0 : fit x) (_hs : ∀ x ∈ l, fit x) (hl : l.length ≤ 9223372036854775807) (hZ : Is w.heap.size a l w) :
    Calls Try.prog 3 #[.int .i64 x, .slice a l.length cap] w fun e w' => e = .returned (.bool true) ∧ Below w.heap.size w w' :=
  law_IsMajority x a cap l w hl hZ fun hn => ⟨majV x l, majOk x l, fun q d v hv _ => (sMaj_any q d l x v hn hv).mono fun _ _ h => ⟨h.1, by rw [h.2]; exact Below.refl _ _⟩, fun q d v hv _ => (iMaj_any q d l x v hn hv).mono fun _ _ h => ⟨h.1, by rw [h.2]; exact Below.refl _ _⟩⟩
end Go.Proofs.Ytikmkkklgdkpaab
