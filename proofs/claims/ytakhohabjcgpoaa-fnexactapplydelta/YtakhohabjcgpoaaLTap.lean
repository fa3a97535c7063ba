/- The exact law of ApplyDelta: its walk out of the contracts of the model and of the program. -/
import Derived.Test.YtakhohabjcgpoaaTAp
import Derived.Test.YtakhohabjcgpoaaTPk
namespace Go.Proofs.Ytakhohabjcgpoaa
set_option maxRecDepth 100000
open Go Go.ChangeShapes Go.WideShapes Go.ChangeAt Go.RowKit
set_option maxHeartbeats 8000000 in
theorem law_ApplyDelta (s : ByteArray) (al : Option Addr) (cl : Nat) (l : List Pt) (w : World) (hss : s.size ≤ 9223372036854775807) (hfl : ∀ r ∈ l, r.tx.size ≤ 9223372036854775807) (hll : l.length ≤ 9223372036854775807) (hZl : Pts w.heap.size al l w)
    (H : s.size ≤ 1048576 → l.length ≤ 1048576 → ∃ (D : ByteArray) (ok : Bool), (∀ (ql : Option Addr) (dl : Nat) (v : World), Pts v.heap.size ql l v → l.length ≤ dl → Calls Try.prog 27 #[.string s, .slice ql l.length dl] v fun e w' => e = .returned (.tuple #[.string D, .bool ok]) ∧ Below v.heap.size v w') ∧ (∀ (ql : Option Addr) (dl : Nat) (v : World), Pts v.heap.size ql l v → l.length ≤ dl → Calls Try.prog 28 #[.string s, .slice ql l.length dl] v fun e w' => e = .returned (.tuple #[.string D, .bool ok]) ∧ Below v.heap.size v w')) :
    Calls Try.prog 8 #[.string s, .slice al l.length cl] w fun e w' => e = .returned (.bool true) ∧ Below w.heap.size w w' := by
  have HH : Hid (s.size ≤ 1048576 → l.length ≤ 1048576 → ∃ (D : ByteArray) (ok : Bool), (∀ (ql : Option Addr) (dl : Nat) (v : World), Pts v.heap.size ql l v → l.length ≤ dl → Calls Try.prog 27 #[.string s, .slice ql l.length dl] v fun e w' => e = .returned (.tuple #[.string D, .bool ok]) ∧ Below v.heap.size v w') ∧ (∀ (ql : Option Addr) (dl : Nat) (v : World), Pts v.heap.size ql l v → l.length ≤ dl → Calls Try.prog 28 #[.string s, .slice ql l.length dl] v fun e w' => e = .returned (.tuple #[.string D, .bool ok]) ∧ Below v.heap.size v w')) := H
  have HZl : Hid (∀ v, Below w.heap.size w v → Pts v.heap.size al l v) := fun v g => (hZl.below g).mono g.size
  have HFl := hid hfl
  clear hfl
  have HNl := hid hll
  clear hZl hll
  clear H
  have B_w : Hid (Below w.heap.size w w) := Below.refl _ _
  go_enter Try.func8, Try.ntmps8
  by_cases hns : s.size ≤ 1048576
  case neg =>
    have hds : decide ((1048576 : Int) < (s.size : Int)) = true := decide_eq_true (by omega)
    go_wp2_with fail
    go_ret
    exact ⟨rfl, B_w.out⟩
  have hds : decide ((1048576 : Int) < (s.size : Int)) = false := decide_eq_false (by omega)
  go_wp2_with fail
  refine (szPartS_left al cl l 1048576 w (by decide) (by decide) HFl.out HNl.out (HZl.out _ B_w.out)).mono ?_
  rintro e w1 ⟨⟨r1, rfl, x1, hr1⟩, g1⟩
  have s_w1 := g1.size
  have B_w1 : Hid (Below w.heap.size w w1) := B_w.out.trans (g1.mono B_w.out.size)
  clear B_w g1
  by_cases p1 : 0 ≤ r1
  case neg =>
    have hd1 : decide (r1 < 0) = true := decide_eq_true (by omega)
    clear hr1
    go_wp2_with fail
    go_ret
    exact ⟨rfl, B_w1.out⟩
  have hd1 : decide (r1 < 0) = false := decide_eq_false (by omega)
  have HLl : Hid (l.length ≤ 1048576) := hr1 p1
  clear hr1 HFl HNl
  obtain ⟨D, ok, h9, h11⟩ := HH.out hns HLl.out
  have H9 := hid h9
  have H11 := hid h11
  clear h9 h11 HH
  have hbk : (ok != ok) = false := by cases ok <;> rfl
  go_wp2_with fail
  refine (to_ownT al cl l _ HLl.out (HZl.out _ B_w1.out)).mono ?_
  rintro e w2 ⟨b2, rfl, o2, g2⟩
  have s_w2 := g2.size
  have B_w2 : Hid (Below w.heap.size w w2) := B_w1.out.trans (g2.mono B_w1.out.size)
  have T0_w2 : Hid (OwnT w1.heap.size w2.heap.size b2 l w2) := o2
  clear B_w1 o2 g2
  go_wp2_with fail
  refine (H9.out b2 l.length _ T0_w2.out.ts (Nat.le_refl _)).mono ?_
  rintro e w3 ⟨rfl, g3⟩
  have s_w3 := g3.size
  have B_w3 : Hid (Below w.heap.size w w3) := B_w2.out.trans (g3.mono B_w2.out.size)
  clear B_w2 T0_w2 g3
  clear H9
  go_wp2_with fail
  refine (to_ownT al cl l _ HLl.out (HZl.out _ B_w3.out)).mono ?_
  rintro e w4 ⟨b4, rfl, o4, g4⟩
  have s_w4 := g4.size
  have B_w4 : Hid (Below w.heap.size w w4) := B_w3.out.trans (g4.mono B_w3.out.size)
  have X0_w4 : Hid (OwnT w3.heap.size w4.heap.size b4 l w4) := o4
  clear B_w3 o4 g4
  go_wp2_with fail
  refine (H11.out b4 l.length _ X0_w4.out.ts (Nat.le_refl _)).mono ?_
  rintro e w5 ⟨rfl, g5⟩
  have s_w5 := g5.size
  have B_w5 : Hid (Below w.heap.size w w5) := B_w4.out.trans (g5.mono B_w4.out.size)
  have X0_w5 : Hid (OwnT w3.heap.size w4.heap.size b4 l w5) := X0_w4.out.below g5
  clear B_w4 X0_w4 g5
  go_wp2_with fail
  refine (to_ownT al cl l _ HLl.out (HZl.out _ B_w5.out)).mono ?_
  rintro e w6 ⟨b6, rfl, o6, g6⟩
  have s_w6 := g6.size
  have B_w6 : Hid (Below w.heap.size w w6) := B_w5.out.trans (g6.mono B_w5.out.size)
  have X0_w6 : Hid (OwnT w3.heap.size w4.heap.size b4 l w6) := X0_w5.out.below g6
  have Y_w6 : Hid (OwnT w5.heap.size w6.heap.size b6 l w6) := o6
  clear B_w5 X0_w5 o6 g6
  go_wp2_with fail
  refine (eqPartS_same b4 b6 l.length l.length l _ HLl.out X0_w6.out.ts Y_w6.out.ts).mono ?_
  rintro e w7 ⟨rfl, g7⟩
  have s_w7 := g7.size
  have B_w7 : Hid (Below w.heap.size w w7) := B_w6.out.trans (g7.mono B_w6.out.size)
  have X0_w7 : Hid (OwnT w3.heap.size w4.heap.size b4 l w7) := X0_w6.out.below g7
  clear B_w6 X0_w6 Y_w6 g7
  go_wp2_with fail
  go_ret
  exact ⟨rfl, B_w7.out⟩
theorem walk_ApplyDelta (s : ByteArray) (a : Option Addr) (cap : Nat) (l : List Pt) (w : World) (hs : s.size ≤ 9223372036854775807) (hZ : Pts w.heap.size a l w) (hf : ∀ r ∈ l, r.tx.size ≤ 9223372036854775807 ∧ fit r.fr ∧ fit r.lg) (hl : l.length ≤ 9223372036854775807) :
    Calls Try.prog 8 #[.string s, .slice a l.length cap] w fun e w' => e = .returned (.bool true) ∧ Below w.heap.size w w' :=
  law_ApplyDelta s a cap l w hs (fun r h => (hf r h).1) hl hZ fun hn hm => ⟨applyV s l, goodD s l, fun q d v hv _ => sApplyD_any s q d l v hn hm (fun r h => (hf r h).2) (fun r h => (hf r h).1) hv, fun q d v hv _ => iApply_any s q d l v (fun r h => (hf r h).2) (fun r h => (hf r h).1) hv⟩
end Go.Proofs.Ytakhohabjcgpoaa
