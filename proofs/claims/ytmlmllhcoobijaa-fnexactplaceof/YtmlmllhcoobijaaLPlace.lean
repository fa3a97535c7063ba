/- The exact law of PlaceOf: its walk. -/
import Derived.Test.YtmlmllhcoobijaaSMap3
import Derived.Test.YtmlmllhcoobijaaXH
import Derived.Test.YtmlmllhcoobijaaXFit
namespace Go.Proofs.Ytmlmllhcoobijaa
set_option maxRecDepth 100000
open Go.ChangeShapes Go.WideShapes Go.ChangeAt Go.RowKit G00541
set_option maxHeartbeats 2000000 in
theorem law_PlaceOf (a : Option Addr) (cap : Nat) (l : List Sx) (b : Int) (w : World) (hn0 : l.length ≤ 9223372036854775807) (hZ : Xs w.heap.size a l w)
    (H : l.length ≤ 1048576 → ∃ (V : Int) (ok : Bool), (∀ q d v, Xs v.heap.size q l v → Calls Try.prog 21 #[.slice q l.length d, .int .i64 b] v fun e w' => e = .returned (.tuple #[.int .i64 V, .bool ok]) ∧ Below v.heap.size v w') ∧
      (∀ q d v, Xs v.heap.size q l v → Calls Try.prog 22 #[.slice q l.length d, .int .i64 b] v fun e w' => e = .returned (.tuple #[.int .i64 V, .bool ok]) ∧ Below v.heap.size v w')) :
    Calls Try.prog 6 #[.slice a l.length cap, .int .i64 b] w fun e w' => e = .returned (.bool true) ∧ Below w.heap.size w w' := by
  have HSZ := hid (szStretchS_any a cap l.length 1048576 w (by decide) (by decide) hn0)
  have HZ : Hid (∀ v, Below w.heap.size w v → Xs v.heap.size a l v) := fun v g => hZ.go g
  have HH := hid H
  clear hZ hn0 H
  go_enter Try.func6, Try.ntmps6
  go_wp2_with fail
  refine (HSZ.out).mono ?_
  rintro e wz ⟨⟨r, rfl, _, hr⟩, hwz⟩
  rw [hwz]
  clear HSZ hwz wz
  by_cases r0 : 0 ≤ r
  case neg =>
    have hd1 : decide (r < 0) = true := by simp; omega
    clear hr
    go_wp2
    go_ret
    exact ⟨rfl, Below.refl _ _⟩
  have hd1 : decide (r < 0) = false := by simp; omega
  have hn := hr r0
  obtain ⟨V, ok, h9, h11⟩ := HH.out hn
  have H9 := hid h9
  have H11 := hid h11
  clear hr h9 h11 HH
  go_wp2_with fail
  refine (to_ownX a cap l _ hn (HZ.out _ (Below.refl _ _))).mono ?_
  rintro e w2 ⟨b2, c2, rfl, o2, g2⟩
  have HB2 : Hid (Below w.heap.size w w2) := g2
  have HO2 : Hid (OwnX w.heap.size w2.heap.size b2 l w2) := o2
  clear g2 o2
  go_wp2_with fail
  refine (H9.out b2 c2 _ HO2.out.xs).mono ?_
  rintro e w3 ⟨rfl, g3⟩
  have HB3 : Hid (Below w.heap.size w w3) := HB2.out.trans (g3.mono HB2.out.size)
  clear g3 HB2 HO2
  go_wp2_with fail
  refine (to_ownX a cap l _ hn (HZ.out _ HB3.out)).mono ?_
  rintro e w4 ⟨b4, c4, rfl, o4, g4⟩
  have HB4 : Hid (Below w.heap.size w w4) := HB3.out.trans (g4.mono HB3.out.size)
  have HX4 : Hid (OwnX w3.heap.size w4.heap.size b4 l w4) := o4
  clear g4 o4 HB3
  go_wp2_with fail
  refine (H11.out b4 c4 _ HX4.out.xs).mono ?_
  rintro e w5 ⟨rfl, g5⟩
  have HB5 : Hid (Below w.heap.size w w5) := HB4.out.trans (g5.mono HB4.out.size)
  have HX5 : Hid (OwnX w3.heap.size w4.heap.size b4 l w5) := HX4.out.below g5
  clear g5 HB4 HX4
  go_wp2_with fail
  refine (to_ownX a cap l _ hn (HZ.out _ HB5.out)).mono ?_
  rintro e w7 ⟨b7, c7, rfl, o7, g7⟩
  have HB7 : Hid (Below w.heap.size w w7) := HB5.out.trans (g7.mono HB5.out.size)
  have HX7 : Hid (OwnX w3.heap.size w4.heap.size b4 l w7) := HX5.out.below g7
  have HY7 : Hid (OwnX w5.heap.size w7.heap.size b7 l w7) := o7
  clear g7 o7 HB5 HX5
  go_wp2_with fail
  refine (eqStretchS_same b4 b7 c4 c7 l _ hn HX7.out.xs HY7.out.xs).mono ?_
  rintro e w8 ⟨rfl, g8⟩
  have HB8 : Hid (Below w.heap.size w w8) := HB7.out.trans (g8.mono HB7.out.size)
  clear g8 HB7 HX7 HY7
  go_wp2
  go_ret
  exact ⟨rfl, HB8.out⟩
theorem walk_PlaceOf (a : Option Addr) (cap : Nat) (l : List Sx) (b : Int) (w : World) (hf : FitM l) (hl : l.length ≤ 9223372036854775807) (hZ : Xs w.heap.size a l w) (_hb : fit b) :
    Calls Try.prog 6 #[.slice a l.length cap, .int .i64 b] w fun e w' => e = .returned (.bool true) ∧ Below w.heap.size w w' := by
  refine law_PlaceOf a cap l b w hl hZ fun hn => ?_
  by_cases hg : goodM l = true ∧ 0 ≤ b ∧ b ≤ 15
  · obtain ⟨hgm, h0, h1⟩ := hg
    obtain ⟨b, rfl⟩ : ∃ b' : Nat, b = b' := ⟨b.toNat, by omega⟩
    by_cases hp : 0 ≤ plN l b
    · refine ⟨plN l b, true, fun q d v hv => ?_, fun q d v hv => ?_⟩
      · have := splace_in q d l b v hn hv hgm (by omega)
        rw [if_pos hp] at this
        exact this
      · have := iplace_in q d l b v hf hv hgm (by omega)
        rw [if_pos hp] at this
        exact this
    · refine ⟨0, false, fun q d v hv => ?_, fun q d v hv => ?_⟩
      · have := splace_in q d l b v hn hv hgm (by omega)
        rw [if_neg hp] at this
        exact this
      · have := iplace_in q d l b v hf hv hgm (by omega)
        rw [if_neg hp] at this
        exact this
  · exact ⟨0, false, fun q d v hv => splace_no q d l b v hn hv hg, fun q d v hv => iplace_no q d l b v hn hf hv hg⟩
end Go.Proofs.Ytmlmllhcoobijaa
