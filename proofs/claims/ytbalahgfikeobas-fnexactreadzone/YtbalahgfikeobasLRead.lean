/- The exact law of ReadZone: its walk out of the contracts of the model and of the program. -/
import Derived.Test.YtbalahgfikeobasD
namespace Go.Proofs.Ytbalahgfikeobas
set_option maxRecDepth 100000
open Go.ChangeShapes Go.WideShapes Go.ChangeAt Go.RowKit
/-- function fn answers s and ok of zones zs -/
def TellsRead (fn : Nat) (zs : List Zn) (k f l : Int) (s : ByteArray) (ok : Bool) : Prop := ∀ (a : Option Addr) (cap : Nat) (w : World), Zs w.heap.size a zs w →
  Calls Try.prog fn #[.agg #[.slice a zs.length cap], .int .i64 k, .int .i64 f, .int .i64 l] w fun e w' => e = .returned (.tuple #[.string s, .bool ok]) ∧ Below w.heap.size w w'
set_option maxHeartbeats 8000000 in
theorem law_Read (a : Option Addr) (cap : Nat) (zs : List Zn) (k f l : Int) (w : World) (hz : ∀ z ∈ zs, z.data.size ≤ 9223372036854775807) (hn0 : zs.length ≤ 9223372036854775807) (hZ : Zs w.heap.size a zs w)
    (H : zs.length ≤ 1048576 → (∀ z ∈ zs, z.data.size ≤ 1048576) → ∃ (s : ByteArray) (ok : Bool), TellsRead 22 zs k f l s ok ∧ TellsRead 23 zs k f l s ok) :
    Calls Try.prog 6 #[.agg #[.slice a zs.length cap], .int .i64 k, .int .i64 f, .int .i64 l] w fun e w' => e = .returned (.bool true) ∧ Below w.heap.size w w' := by
  have HS : Hid (Calls Try.prog 8 #[.agg #[.slice a zs.length cap], .int .i64 1048576] (w.alloc (.cells #[.slice a zs.length cap] 24)) fun e w' => (∃ r : Int, e = .returned (.int .i64 r) ∧ (0 ≤ r → zs.length ≤ 1048576 ∧ ∀ z ∈ zs, z.data.size ≤ 1048576)) ∧ Below (w.alloc (.cells #[.slice a zs.length cap] 24)).heap.size (w.alloc (.cells #[.slice a zs.length cap] 24)) w') :=
    szDevice_any a cap zs _ hz hn0 ((hZ.below ((Below.refl _ _).alloc (Nat.le_refl _) _)).mono (by simp))
  have HZ : Hid (∀ v, Below w.heap.size w v → Zs v.heap.size a zs v) := fun v g => (hZ.below g).mono g.size
  have L0 : Loc [(w.heap.size, .slice a zs.length cap, 24)] (w.alloc (.cells #[.slice a zs.length cap] 24)) := (Loc.nil w).alloc _ _
  have HH : Hid (zs.length ≤ 1048576 → (∀ z ∈ zs, z.data.size ≤ 1048576) → ∃ (s : ByteArray) (ok : Bool), TellsRead 22 zs k f l s ok ∧ TellsRead 23 zs k f l s ok) := H
  clear hz hn0 hZ H
  go_enter Try.func6, Try.ntmps6
  go_wp2_with fail
  refine (HS.out).mono ?_
  rintro e w1 ⟨⟨r, rfl, hr⟩, b1⟩
  have B1 : Below w.heap.size w w1 := ((Below.refl _ _).alloc (Nat.le_refl _) _).trans (b1.mono (by simp))
  by_cases r0 : 0 ≤ r
  case neg =>
    have hd1 : decide (r < 0) = true := by simp; omega
    have HB1 : Hid (Below w.heap.size w w1) := B1
    clear B1 b1 hr HS L0 HH
    go_wp2
    go_ret
    exact ⟨rfl, HB1.out⟩
  obtain ⟨hn, hsm⟩ := hr r0
  obtain ⟨s, ok, h9, h11⟩ := HH.out hn hsm
  have H9 : Hid (TellsRead 22 zs k f l s ok) := h9
  have H11 : Hid (TellsRead 23 zs k f l s ok) := h11
  clear h9 h11 HH
  have hd1 : decide (r < 0) = false := by simp; omega
  have L1 := L0.below b1
  clear hsm hr
  have q1 := L1.cell _ _ _ (List.mem_cons_self)
  have HB1 : Hid (Below w.heap.size w w1) := B1
  have HL1 : Hid (Loc [(w.heap.size, .slice a zs.length cap, 24)] w1) := L1
  clear L0 L1 B1 b1 HS
  go_wp2_with fail
  refine (to_own a cap zs _ hn (HZ.out _ HB1.out)).mono ?_
  rintro e w2 ⟨b2, c2, rfl, o2, g2⟩
  have HL2 : Hid (Loc [(w.heap.size, .slice a zs.length cap, 24)] w2) := HL1.out.below g2
  have HB2 : Hid (Below w.heap.size w w2) := HB1.out.trans (g2.mono HB1.out.size)
  have HO2 : Hid (Own w1.heap.size w2.heap.size b2 zs w2) := o2
  clear o2 g2 HL1 q1
  go_wp2_with fail
  refine (H9.out b2 c2 _ HO2.out.zs).mono ?_
  rintro e w3 ⟨rfl, g3⟩
  have HL3 : Hid (Loc [(w.heap.size, .slice a zs.length cap, 24)] w3) := HL2.out.below g3
  have HB3 : Hid (Below w.heap.size w w3) := HB2.out.trans (g3.mono HB2.out.size)
  have q2 := HL3.out.cell w.heap.size (.slice a zs.length cap) 24 (by simp)
  clear g3 HL2 HO2 HB2
  go_wp2_with fail
  refine (to_own a cap zs _ hn (HZ.out _ HB3.out)).mono ?_
  rintro e w4 ⟨b4, c4, rfl, o4, g4⟩
  have HL4 : Hid (Loc [(w4.heap.size, .slice b4 zs.length c4, 28), (w.heap.size, .slice a zs.length cap, 24)] (w4.alloc (.cells #[.slice b4 zs.length c4] 28))) := (HL3.out.below g4).alloc _ _
  have HB4 : Hid (Below w.heap.size w (w4.alloc (.cells #[.slice b4 zs.length c4] 28))) := (HB3.out.trans (g4.mono HB3.out.size)).alloc (HB3.out.trans (g4.mono HB3.out.size)).size _
  have HX4 : Hid (Own w3.heap.size w4.heap.size b4 zs (w4.alloc (.cells #[.slice b4 zs.length c4] 28))) := o4.below ((Below.refl _ _).alloc (Nat.le_refl _) _)
  clear o4 g4 HB3 HL3 q2
  go_wp2_with fail
  refine (H11.out b4 c4 _ HX4.out.zs).mono ?_
  rintro e w6 ⟨rfl, g6⟩
  have HL6 : Hid (Loc [(w4.heap.size, .slice b4 zs.length c4, 28), (w.heap.size, .slice a zs.length cap, 24)] w6) := HL4.out.below g6
  have HB6 : Hid (Below w.heap.size w w6) := HB4.out.trans (g6.mono HB4.out.size)
  have HX6 : Hid (Own w3.heap.size w4.heap.size b4 zs w6) := HX4.out.below g6
  have q8 := HL6.out.cell w4.heap.size (.slice b4 zs.length c4) 28 (by simp)
  have q2 := HL6.out.cell w.heap.size (.slice a zs.length cap) 24 (by simp)
  clear g6 HB4 HX4 HL4
  have HZ6 : Hid (Zs w6.drew.heap.size a zs w6.drew) := HZ.out w6.drew HB6.out.drew
  go_wp2_with fail
  go_region_with (first | (go_at_call 10; refine (to_own a cap zs _ hn HZ6.out).mono ?_; rintro e w7 ⟨b7, c7, rfl, o7, g7⟩; have q8b := (HL6.out.below (show Below w6.heap.size w6 w7 from ⟨g7.os, g7.tape, g7.output, g7.size, g7.block⟩)).cell w4.heap.size (.slice b4 zs.length c4) 28 (by simp)) | (go_at_call 12; refine (eqDevice_same b4 b7 c4 c7 zs _ hn (HX6.out.below (show Below w6.heap.size w6 w7 from ⟨g7.os, g7.tape, g7.output, g7.size, g7.block⟩)).zs o7.zs).mono ?_; rintro e w8 ⟨rfl, g8⟩))
  all_goals
    have g7b : Below w6.heap.size w6 w7 := ⟨g7.os, g7.tape, g7.output, g7.size, g7.block⟩
    have g78 : Below w6.heap.size w6 w8 := g7b.trans (g8.mono g7b.size)
    have HB8 : Hid (Below w.heap.size w w8) := HB6.out.trans (g78.mono HB6.out.size)
    clear g7 g8 g7b g78 o7 HB6 HX6 HL6 HZ6 q8 q2
    go_wp2
    go_ret
    exact ⟨rfl, HB8.out⟩
end Go.Proofs.Ytbalahgfikeobas
