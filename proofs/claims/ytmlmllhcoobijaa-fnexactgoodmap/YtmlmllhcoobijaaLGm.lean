/- The exact law of GoodMap: its walk. -/
import Derived.Test.YtmlmllhcoobijaaIMap
import Derived.Test.YtmlmllhcoobijaaSGm
import Derived.Test.YtmlmllhcoobijaaXH
namespace Go.Proofs.Ytmlmllhcoobijaa
set_option maxRecDepth 100000
open Go.ChangeShapes Go.WideShapes Go.ChangeAt Go.RowKit G00541
set_option maxHeartbeats 2000000 in
theorem walk_GoodMap (a : Option Addr) (cap : Nat) (l : List Sx) (w : World) (hfit : FitM l) (hn0 : l.length ≤ 9223372036854775807) (hZ : Xs w.heap.size a l w) :
    Calls Try.prog 3 #[.slice a l.length cap] w fun e w' => e = .returned (.bool true) ∧ Below w.heap.size w w' := by
  have HSZ := hid (szStretchS_any a cap l.length 1048576 w (by decide) (by decide) hn0)
  have HZ : Hid (∀ v, Below w.heap.size w v → Xs v.heap.size a l v) := fun v g => hZ.go g
  have HFIT : Hid (FitM l) := hfit
  clear hZ hn0 hfit
  go_enter Try.func3, Try.ntmps3
  go_wp2_with fail
  refine (HSZ.out).mono ?_
  rintro e w1 ⟨⟨r, rfl, _, hr⟩, rfl⟩
  clear HSZ
  by_cases r0 : 0 ≤ r
  case neg =>
    have hd1 : decide (r < 0) = true := by simp; omega
    clear hr
    go_wp2
    go_ret
    exact ⟨rfl, Below.refl _ _⟩
  have hd1 : decide (r < 0) = false := by simp; omega
  have hn := hr r0
  clear hr
  go_wp2_with fail
  refine (to_ownX a cap l _ hn (HZ.out _ (Below.refl _ _))).mono ?_
  rintro e w2 ⟨b2, c2, rfl, o2, g2⟩
  have HB2 : Hid (Below w1.heap.size w1 w2) := g2
  have HO2 : Hid (OwnX w1.heap.size w2.heap.size b2 l w2) := o2
  clear g2 o2
  go_wp2_with fail
  refine (sgood_any b2 c2 l _ hn HO2.out.xs).mono ?_
  rintro e w3 ⟨rfl, g3⟩
  have HB3 : Hid (Below w1.heap.size w1 w3) := HB2.out.trans (g3.mono HB2.out.size)
  clear g3 HB2 HO2
  go_wp2_with fail
  refine (to_ownX a cap l _ hn (HZ.out _ HB3.out)).mono ?_
  rintro e w4 ⟨b4, c4, rfl, o4, g4⟩
  have HB4 : Hid (Below w1.heap.size w1 w4) := HB3.out.trans (g4.mono HB3.out.size)
  have HX4 : Hid (OwnX w3.heap.size w4.heap.size b4 l w4) := o4
  clear g4 o4 HB3
  go_wp2_with fail
  refine (igood_any b4 c4 l _ hn HFIT.out HX4.out.xs).mono ?_
  rintro e w5 ⟨rfl, g5⟩
  have HB5 : Hid (Below w1.heap.size w1 w5) := HB4.out.trans (g5.mono HB4.out.size)
  have HX5 : Hid (OwnX w3.heap.size w4.heap.size b4 l w5) := HX4.out.below g5
  clear g5 HB4 HX4
  generalize goodM l = v at *
  go_wp2_with fail
  refine (to_ownX a cap l _ hn (HZ.out _ HB5.out)).mono ?_
  rintro e w7 ⟨b7, c7, rfl, o7, g7⟩
  have HB7 : Hid (Below w1.heap.size w1 w7) := HB5.out.trans (g7.mono HB5.out.size)
  have HX7 : Hid (OwnX w3.heap.size w4.heap.size b4 l w7) := HX5.out.below g7
  have HY7 : Hid (OwnX w5.heap.size w7.heap.size b7 l w7) := o7
  clear g7 o7 HB5 HX5
  go_wp2_with fail
  refine (eqStretchS_same b4 b7 c4 c7 l _ hn HX7.out.xs HY7.out.xs).mono ?_
  rintro e w8 ⟨rfl, g8⟩
  have HB8 : Hid (Below w1.heap.size w1 w8) := HB7.out.trans (g8.mono HB7.out.size)
  clear g8 HB7 HX7 HY7
  go_wp2
  go_ret
  exact ⟨rfl, HB8.out⟩
end Go.Proofs.Ytmlmllhcoobijaa
