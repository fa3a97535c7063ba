/- The exact law of GoodSources: its walk out of the contracts of the model and of the program. -/
import Derived.Test.YtnjeeeccfhpolaaPGs
import Derived.Test.YtnjeeeccfhpolaaPSz
namespace Go.Proofs.Ytnjeeeccfhpolaa
set_option maxRecDepth 100000
open Go Go.ChangeShapes Go.WideShapes Go.ChangeAt Go.RowKit
/-- function f answers so -/
def TellsGoodSources (f : Nat) (l : List ByteArray) (ok : Bool) : Prop := ∀ (q : Option Addr) (d : Nat) (v : World), Ss v.heap.size q l v → l.length ≤ d →
  Calls Try.prog f #[.slice q l.length d] v fun e w' => e = .returned (.bool ok) ∧ Below v.heap.size v w'
set_option maxHeartbeats 8000000 in
theorem law_GoodSources (a : Option Addr) (cap : Nat) (l : List ByteArray) (w : World) (hs : ∀ s ∈ l, s.size ≤ 9223372036854775807) (hl : l.length ≤ 9223372036854775807) (hZ : Ss w.heap.size a l w)
    (H : l.length ≤ 1048576 → ∃ (ok : Bool), TellsGoodSources 10 l  ok ∧ TellsGoodSources 12 l  ok) :
    Calls Try.prog 3 #[.slice a l.length cap] w fun e w' => e = .returned (.bool true) ∧ Below w.heap.size w w' := by
  have HH : Hid (l.length ≤ 1048576 → ∃ (ok : Bool), TellsGoodSources 10 l  ok ∧ TellsGoodSources 12 l  ok) := H
  have HZ : Hid (∀ v, Below w.heap.size w v → Ss v.heap.size a l v) := fun v g => (hZ.below g).mono g.size
  have HCN := hid hs
  have HLN := hid hl
  clear hZ H hs hl
  have B_w : Hid (Below w.heap.size w w) := Below.refl _ _
  have hbk : (ok_ : Bool) → (ok_ != ok_) = false := fun ok_ => by cases ok_ <;> rfl
  have HBK := hid hbk
  clear hbk
  go_enter Try.func3, Try.ntmps3
  go_wp2_with fail
  refine (szStringS_l a cap l 1048576 w (by decide) (by decide) HCN.out HLN.out (HZ.out _ B_w.out)).mono ?_
  rintro e v ⟨⟨r, rfl, r1, r2, hr⟩, hv⟩
  rw [hv]
  clear hv v
  by_cases p0 : 0 ≤ r
  case neg =>
    have hd0 : decide (r < 0) = true := decide_eq_true (by omega)
    clear hr
    go_wp2_with fail
    go_ret
    exact ⟨rfl, B_w.out⟩
  have hd0 : decide (r < 0) = false := decide_eq_false (by omega)
  have HL : Hid (l.length ≤ 1048576) := by show l.length ≤ 1048576; have := hr p0; omega
  clear hr r1 r2 HCN HLN
  obtain ⟨ok, h9, h11⟩ := HH.out HL.out
  have H9 : Hid (TellsGoodSources 10 l  ok) := h9
  have H11 : Hid (TellsGoodSources 12 l  ok) := h11
  clear h9 h11 HH
  have hbk := HBK.out ok
  clear HBK
  go_wp2_with fail
  refine (to_ownS a cap l _ HL.out (HZ.out _ B_w.out)).mono ?_
  rintro e w1 ⟨b1, rfl, o1, g1⟩
  have s_w1 := g1.size
  have B_w1 : Hid (Below w.heap.size w w1) := B_w.out.trans (g1.mono B_w.out.size)
  have T_w1 : Hid (OwnS w.heap.size w1.heap.size b1 l w1) := o1
  clear B_w o1 g1
  go_wp2_with fail
  refine (H9.out b1 l.length _ T_w1.out.ss (Nat.le_refl _)).mono ?_
  rintro e w2 ⟨rfl, g2⟩
  have s_w2 := g2.size
  have B_w2 : Hid (Below w.heap.size w w2) := B_w1.out.trans (g2.mono B_w1.out.size)
  clear B_w1 T_w1 g2
  clear H9
  go_wp2_with fail
  refine (to_ownS a cap l _ HL.out (HZ.out _ B_w2.out)).mono ?_
  rintro e w3 ⟨b3, rfl, o3, g3⟩
  have s_w3 := g3.size
  have B_w3 : Hid (Below w.heap.size w w3) := B_w2.out.trans (g3.mono B_w2.out.size)
  have X_w3 : Hid (OwnS w2.heap.size w3.heap.size b3 l w3) := o3
  clear B_w2 o3 g3
  go_wp2_with fail
  refine (H11.out b3 l.length _ X_w3.out.ss (Nat.le_refl _)).mono ?_
  rintro e w4 ⟨rfl, g4⟩
  have s_w4 := g4.size
  have B_w4 : Hid (Below w.heap.size w w4) := B_w3.out.trans (g4.mono B_w3.out.size)
  have X_w4 : Hid (OwnS w2.heap.size w3.heap.size b3 l w4) := X_w3.out.below g4
  clear B_w3 X_w3 g4
  go_wp2_with fail
  refine (to_ownS a cap l _ HL.out (HZ.out _ B_w4.out)).mono ?_
  rintro e w5 ⟨b5, rfl, o5, g5⟩
  have s_w5 := g5.size
  have B_w5 : Hid (Below w.heap.size w w5) := B_w4.out.trans (g5.mono B_w4.out.size)
  have X_w5 : Hid (OwnS w2.heap.size w3.heap.size b3 l w5) := X_w4.out.below g5
  have Y_w5 : Hid (OwnS w4.heap.size w5.heap.size b5 l w5) := o5
  clear B_w4 X_w4 o5 g5
  go_wp2_with fail
  refine (eqStringS_same b3 b5 l.length l.length l _ HL.out X_w5.out.ss Y_w5.out.ss).mono ?_
  rintro e w6 ⟨rfl, g6⟩
  have s_w6 := g6.size
  have B_w6 : Hid (Below w.heap.size w w6) := B_w5.out.trans (g6.mono B_w5.out.size)
  have X_w6 : Hid (OwnS w2.heap.size w3.heap.size b3 l w6) := X_w5.out.below g6
  clear B_w5 X_w5 Y_w5 g6
  go_wp2_with fail
  go_ret
  exact ⟨rfl, B_w6.out⟩
theorem walk_GoodSources (a : Option Addr) (cap : Nat) (l : List ByteArray) (w : World) (hZ : Ss w.heap.size a l w) (hs : ∀ s ∈ l, s.size ≤ 9223372036854775807) (hl : l.length ≤ 9223372036854775807) :
    Calls Try.prog 3 #[.slice a l.length cap] w fun e w' => e = .returned (.bool true) ∧ Below w.heap.size w w' :=
  law_GoodSources a cap l w hs hl hZ fun hn => ⟨goodSr l, fun q d v hv _ => (salike_any q d l v hn hs hv).mono fun _ _ h => ⟨h.1, by rw [h.2]; exact Below.refl _ _⟩, fun q d v hv _ => (igoodSr_any q d l v hn hs hv).mono fun _ _ h => ⟨h.1, by rw [h.2]; exact Below.refl _ _⟩⟩
end Go.Proofs.Ytnjeeeccfhpolaa
