/- The exact law of SegmentText: its walk. -/
import Derived.Test.YtbbnbkofomaefaaDoorHRecS
import Derived.Test.YtbbnbkofomaefaaDoorSegI
namespace Go.Proofs.YtbbnbkofomaefaaDoor
set_option maxRecDepth 100000
open Go.ChangeShapes Go.WideShapes Go.ChangeAt Go.RowKit G00541
set_option maxHeartbeats 2000000 in
theorem walk_SegmentText (a : Option Addr) (cap : Nat) (l : List Rc) (w : World) (hT : Tab w) (hz : ∀ r ∈ l, r.data.length ≤ 9223372036854775807) (hn0 : l.length ≤ 9223372036854775807) (hZ : Rs w.heap.size a l w) :
    Calls Tryd.prog 5 #[.slice a l.length cap] w fun e w' => e = .returned (.bool true) ∧ Below w.heap.size w w' := by
  have HSZ : Hid (Calls Tryd.prog 15 #[.slice a l.length cap, .int .i64 1048576] w fun e w' => (∃ r : Int, e = .returned (.int .i64 r) ∧ (0 ≤ r → l.length ≤ 1048576 ∧ ∀ r ∈ l, r.data.length ≤ 1048576)) ∧ Below w.heap.size w w') := szRecordS_any a cap l w hz hn0 hZ
  have HZ : Hid (∀ v, Below w.heap.size w v → Rs v.heap.size a l v) := fun v g => (hZ.below g).mono g.size
  have HT : Hid (∀ v, Below w.heap.size w v → Tab v) := fun v g => hT.below g
  clear hZ hz hT hn0
  go_enter Tryd.func5, Tryd.ntmps5
  go_wp2_with fail
  refine (HSZ.out).mono ?_
  rintro e w1 ⟨⟨r, rfl, hr⟩, b1⟩
  have HB1 : Hid (Below w.heap.size w w1) := b1
  clear b1 HSZ
  by_cases r0 : 0 ≤ r
  case neg =>
    have hd1 : decide (r < 0) = true := by simp; omega
    clear hr
    go_wp2
    go_ret
    exact ⟨rfl, HB1.out⟩
  have hd1 : decide (r < 0) = false := by simp; omega
  obtain ⟨hn, _⟩ := hr r0
  clear hr
  go_wp2_with fail
  refine (toRecordS_any a cap l _ hn (HZ.out _ HB1.out)).mono ?_
  rintro e w2 ⟨rfl, o2, g2⟩
  have HB2 : Hid (Below w.heap.size w w2) := HB1.out.trans (g2.mono HB1.out.size)
  have HO2 : Hid (RRow w1.heap.size l w2) := o2
  clear g2 o2 HB1
  go_wp2_with fail
  refine (sseg_any _ _ l _ hn (HO2.out.sl HO2.out.lt)).mono ?_
  rintro e w3 ⟨rfl, g3⟩
  have HB3 : Hid (Below w.heap.size w w3) := HB2.out.trans (g3.mono HB2.out.size)
  clear g3 HB2 HO2
  go_wp2_with fail
  refine (toRecordS_any a cap l _ hn (HZ.out _ HB3.out)).mono ?_
  rintro e w4 ⟨rfl, o4, g4⟩
  have HB4 : Hid (Below w.heap.size w w4) := HB3.out.trans (g4.mono HB3.out.size)
  have HO4 : Hid (RRow w3.heap.size l w4) := o4
  clear g4 o4 HB3
  go_wp2_with fail
  refine (iseg_any _ _ l _ (HT.out _ HB4.out) hn (HO4.out.sl HO4.out.lt)).mono ?_
  rintro e w5 ⟨rfl, g5⟩
  have HB5 : Hid (Below w.heap.size w w5) := HB4.out.trans (g5.mono HB4.out.size)
  have HO5 : Hid (RRow w3.heap.size l w5) := HO4.out.below g5
  clear g5 HB4 HO4
  generalize segV l = V at *
  generalize segOk l = ok at *
  go_wp2_with fail
  refine (toRecordS_any a cap l _ hn (HZ.out _ HB5.out)).mono ?_
  rintro e w6 ⟨rfl, o6, g6⟩
  have HB6 : Hid (Below w.heap.size w w6) := HB5.out.trans (g6.mono HB5.out.size)
  have HO6 : Hid (RRow w3.heap.size l w6) := HO5.out.below g6
  have HP6 : Hid (RRow w5.heap.size l w6) := o6
  clear g6 o6 HB5 HO5
  go_wp2_with fail
  refine (eqRecordS_same _ _ _ _ l _ hn (HO6.out.sl HO6.out.lt) (HP6.out.sl HP6.out.lt)).mono ?_
  rintro e w7 ⟨rfl, g7⟩
  have HB7 : Hid (Below w.heap.size w w7) := HB6.out.trans (g7.mono HB6.out.size)
  clear g7 HB6 HO6 HP6
  go_wp2
  go_ret
  exact ⟨rfl, HB7.out⟩
end Go.Proofs.YtbbnbkofomaefaaDoor
