/- The exact law of OpenZones: its walk out of the contracts of the model and of the program. -/
import Derived.Test.YtbalahgfikeobasIntS
namespace Go.Proofs.Ytbalahgfikeobas
set_option maxRecDepth 100000
open Go.ChangeShapes Go.WideShapes Go.ChangeAt Go.RowKit
/-- function f answers the numbers V and ok of zones zs, in memory of its own -/
def TellsOpen (f : Nat) (zs : List Zn) (V : List Int) (ok : Bool) : Prop := ∀ (a : Option Addr) (cap : Nat) (w : World), Zs w.heap.size a zs w →
  Calls Try.prog f #[.agg #[.slice a zs.length cap]] w fun e w' => ∃ b c, e = .returned (.tuple #[.slice b V.length c, .bool ok]) ∧ OwnI w.heap.size w'.heap.size b V w' ∧ Below w.heap.size w w'
set_option maxHeartbeats 8000000 in
theorem law_Open (a : Option Addr) (cap : Nat) (zs : List Zn) (w : World) (hz : ∀ z ∈ zs, z.data.size ≤ 9223372036854775807) (hn0 : zs.length ≤ 9223372036854775807) (hZ : Zs w.heap.size a zs w)
    (H : zs.length ≤ 1048576 → (∀ z ∈ zs, z.data.size ≤ 1048576) → ∃ (V : List Int) (ok : Bool), V.length ≤ 1048576 ∧ TellsOpen 24 zs V ok ∧ TellsOpen 25 zs V ok) :
    Calls Try.prog 7 #[.agg #[.slice a zs.length cap]] w fun e w' => e = .returned (.bool true) ∧ Below w.heap.size w w' := by
  have HS : Hid (Calls Try.prog 8 #[.agg #[.slice a zs.length cap], .int .i64 1048576] (w.alloc (.cells #[.slice a zs.length cap] 24)) fun e w' => (∃ r : Int, e = .returned (.int .i64 r) ∧ (0 ≤ r → zs.length ≤ 1048576 ∧ ∀ z ∈ zs, z.data.size ≤ 1048576)) ∧ Below (w.alloc (.cells #[.slice a zs.length cap] 24)).heap.size (w.alloc (.cells #[.slice a zs.length cap] 24)) w') :=
    szDevice_any a cap zs _ hz hn0 ((hZ.below ((Below.refl _ _).alloc (Nat.le_refl _) _)).mono (by simp))
  have HZ : Hid (∀ v, Below w.heap.size w v → Zs v.heap.size a zs v) := fun v g => (hZ.below g).mono g.size
  have L0 : Loc [(w.heap.size, .slice a zs.length cap, 24)] (w.alloc (.cells #[.slice a zs.length cap] 24)) := (Loc.nil w).alloc _ _
  have HH : Hid (zs.length ≤ 1048576 → (∀ z ∈ zs, z.data.size ≤ 1048576) → ∃ (V : List Int) (ok : Bool), V.length ≤ 1048576 ∧ TellsOpen 24 zs V ok ∧ TellsOpen 25 zs V ok) := H
  clear hz hn0 hZ H
  go_enter Try.func7, Try.ntmps7
  go_wp2_with fail
  refine (HS.out).mono ?_
  rintro e w1 ⟨⟨r, rfl, hr⟩, b1⟩
  have B1 : Below w.heap.size w w1 := ((Below.refl _ _).alloc (Nat.le_refl _) _).trans (b1.mono (by simp))
  by_cases r0 : 0 ≤ r
  case neg =>
    have hd1 : decide (r < 0) = true := by simp; omega
    have HB1 : Hid (Below w.heap.size w w1) := B1
    clear B1 b1 hr HS L0 HH
    go_wp2
    go_ret
    exact ⟨rfl, HB1.out⟩
  obtain ⟨hn, hsm⟩ := hr r0
  obtain ⟨V, ok, hV, h9, h11⟩ := HH.out hn hsm
  have H9 : Hid (TellsOpen 24 zs V ok) := h9
  have H11 : Hid (TellsOpen 25 zs V ok) := h11
  clear h9 h11 HH
  have hd1 : decide (r < 0) = false := by simp; omega
  have L1 := L0.below b1
  clear hsm hr
  have q1 := L1.cell _ _ _ (List.mem_cons_self)
  have HB1 : Hid (Below w.heap.size w w1) := B1
  have HL1 : Hid (Loc [(w.heap.size, .slice a zs.length cap, 24)] w1) := L1
  clear L0 L1 B1 b1 HS
  go_wp2_with fail
  refine (to_own a cap zs _ hn (HZ.out _ HB1.out)).mono ?_
  rintro e w2 ⟨b2, c2, rfl, o2, g2⟩
  have HL2 : Hid (Loc [(w.heap.size, .slice a zs.length cap, 24)] w2) := HL1.out.below g2
  have HB2 : Hid (Below w.heap.size w w2) := HB1.out.trans (g2.mono HB1.out.size)
  have HO2 : Hid (Own w1.heap.size w2.heap.size b2 zs w2) := o2
  clear o2 g2 HL1 q1
  go_wp2_with fail
  refine (H9.out b2 c2 _ HO2.out.zs).mono ?_
  rintro e w3 ⟨b3, c3, rfl, o3, g3⟩
  have HL3 : Hid (Loc [(w.heap.size, .slice a zs.length cap, 24)] w3) := HL2.out.below g3
  have HB3 : Hid (Below w.heap.size w w3) := HB2.out.trans (g3.mono HB2.out.size)
  have HW3 : Hid (OwnI w2.heap.size w3.heap.size b3 V w3) := o3
  have q2 := HL3.out.cell w.heap.size (.slice a zs.length cap) 24 (by simp)
  have l3 := HL3.out.lt (w.heap.size, .slice a zs.length cap, 24) (by simp)
  have s2 := HL2.out.lt (w.heap.size, .slice a zs.length cap, 24) (by simp)
  clear o3 g3 HL2 HO2 HB2 H9
  go_wp2_with fail
  refine (to_own a cap zs _ hn (HZ.out _ HB3.out)).mono ?_
  rintro e w4 ⟨b4, c4, rfl, o4, g4⟩
  have s4 := g4.size
  have z4 : (w4.alloc (.cells #[.slice b4 zs.length c4] 28)).heap.size = w4.heap.size + 1 := heap_size _ _
  have HL4 : Hid (Loc [(w4.heap.size, .slice b4 zs.length c4, 28), (w.heap.size, .slice a zs.length cap, 24)] (w4.alloc (.cells #[.slice b4 zs.length c4] 28))) := (HL3.out.below g4).alloc _ _
  have HB4 : Hid (Below w.heap.size w (w4.alloc (.cells #[.slice b4 zs.length c4] 28))) := (HB3.out.trans (g4.mono HB3.out.size)).alloc (HB3.out.trans (g4.mono HB3.out.size)).size _
  have HW4 : Hid (OwnI w2.heap.size w3.heap.size b3 V (w4.alloc (.cells #[.slice b4 zs.length c4] 28))) := (HW3.out.below g4).below ((Below.refl _ _).alloc (Nat.le_refl _) _)
  have HX4 : Hid (Own w3.heap.size w4.heap.size b4 zs (w4.alloc (.cells #[.slice b4 zs.length c4] 28))) := o4.below ((Below.refl _ _).alloc (Nat.le_refl _) _)
  clear o4 g4 HB3 HL3 HW3 q2
  go_wp2_with fail
  refine (H11.out b4 c4 _ HX4.out.zs).mono ?_
  rintro e w5 ⟨b5, c5, rfl, o5, g5⟩
  have s5 := g5.size
  rw [z4] at s5 o5
  have HL5 : Hid (Loc [(w4.heap.size, .slice b4 zs.length c4, 28), (w.heap.size, .slice a zs.length cap, 24)] w5) := HL4.out.below g5
  have HB5 : Hid (Below w.heap.size w w5) := HB4.out.trans (g5.mono HB4.out.size)
  have HW5 : Hid (OwnI w2.heap.size w3.heap.size b3 V w5) := HW4.out.below g5
  have HX5 : Hid (Own w3.heap.size w4.heap.size b4 zs w5) := HX4.out.below g5
  have HG5 : Hid (OwnI (w4.heap.size + 1) w5.heap.size b5 V w5) := o5
  clear o5 g5 HB4 HW4 HX4 HL4 z4
  go_wp2_with fail
  refine (eqIntS_same b5 b3 c5 c3 V _ hV HG5.out.is HW5.out.is).mono ?_
  rintro e w6 ⟨rfl, g6⟩
  have s6 := g6.size
  have HL6 : Hid (Loc [(w4.heap.size, .slice b4 zs.length c4, 28), (w.heap.size, .slice a zs.length cap, 24)] w6) := HL5.out.below g6
  have HB6 : Hid (Below w.heap.size w w6) := HB5.out.trans (g6.mono HB5.out.size)
  have HW6 : Hid (OwnI w2.heap.size w3.heap.size b3 V w6) := HW5.out.below g6
  have HX6 : Hid (Own w3.heap.size w4.heap.size b4 zs w6) := HX5.out.below g6
  have HG6 : Hid (OwnI (w4.heap.size + 1) w5.heap.size b5 V w6) := HG5.out.below g6
  have q8 := HL6.out.cell w4.heap.size (.slice b4 zs.length c4) 28 (by simp)
  have q2 := HL6.out.cell w.heap.size (.slice a zs.length cap) 24 (by simp)
  clear g6 HB5 HW5 HX5 HG5 HL5
  have HZ6 : Hid (Zs w6.drew.heap.size a zs w6.drew) := HZ.out w6.drew HB6.out.drew
  go_wp2_with fail
  go_region_with (first | (go_at_call 10; refine (to_own a cap zs _ hn HZ6.out).mono ?_; rintro e w7 ⟨b7, c7, rfl, o7, g7⟩; have q8b := (HL6.out.below (show Below w6.heap.size w6 w7 from ⟨g7.os, g7.tape, g7.output, g7.size, g7.block⟩)).cell w4.heap.size (.slice b4 zs.length c4) 28 (by simp)) | (go_at_call 12; refine (eqDevice_same b4 b7 c4 c7 zs _ hn (HX6.out.below (show Below w6.heap.size w6 w7 from ⟨g7.os, g7.tape, g7.output, g7.size, g7.block⟩)).zs o7.zs).mono ?_; rintro e w8 ⟨rfl, g8⟩))
  all_goals
    have g7b : Below w6.heap.size w6 w7 := ⟨g7.os, g7.tape, g7.output, g7.size, g7.block⟩
    have g78 : Below w6.heap.size w6 w8 := g7b.trans (g8.mono g7b.size)
    have HL8 : Hid (Loc [(w4.heap.size, .slice b4 zs.length c4, 28), (w.heap.size, .slice a zs.length cap, 24)] w8) := HL6.out.below g78
    have HB8 : Hid (Below w.heap.size w w8) := HB6.out.trans (g78.mono HB6.out.size)
    have HW8 : Hid (OwnI w2.heap.size w3.heap.size b3 V w8) := HW6.out.below g78
    have HX8 : Hid (Own w3.heap.size w4.heap.size b4 zs w8) := HX6.out.below g78
    have HG8 : Hid (OwnI (w4.heap.size + 1) w5.heap.size b5 V w8) := HG6.out.below g78
    have s8 := g78.size
    clear g7 g8 g7b g78 o7 HB6 HW6 HX6 HG6 HL6 HZ6 q8 q2
    have q8 := HL8.out.cell w4.heap.size (.slice b4 zs.length c4) 28 (by simp)
    go_wp2_with fail
    refine (mark_own _ _ b4 c4 zs _ hn HX8.out).mono ?_
    rintro e w9 ⟨rfl, o9, t9⟩
    have hm9 : decide (((1 + 3 * zs.length : Nat) : Int) < 0) = false := by simp; omega
    have HL9 : Hid (Loc [(w4.heap.size, .slice b4 zs.length c4, 28), (w.heap.size, .slice a zs.length cap, 24)] w9) := HL8.out.out t9 (by
      intro x hx
      simp only [List.mem_cons, List.mem_nil_iff, or_false] at hx
      rcases hx with rfl | rfl <;> simp only <;> omega)
    have HB9 : Hid (Below w.heap.size w w9) := HB8.out.trans (t9.below (by omega) HB8.out.size)
    have HW9 : Hid (OwnI w2.heap.size w3.heap.size b3 V w9) := HW8.out.out t9 (by omega)
    have HG9 : Hid (OwnI (w4.heap.size + 1) w5.heap.size b5 V w9) := HG8.out.out t9 (by omega)
    have s9 := t9.size
    clear o9 t9 HB8 HW8 HX8 HG8 HL8 q8
    generalize 1 + 3 * zs.length = m9 at *
    go_wp2_with fail
    refine (eqIntS_same b5 b3 c5 c3 V _ hV HG9.out.is HW9.out.is).mono ?_
    rintro e w10 ⟨rfl, g10⟩
    have s10 := g10.size
    have HL10 : Hid (Loc [(w4.heap.size, .slice b4 zs.length c4, 28), (w.heap.size, .slice a zs.length cap, 24)] w10) := HL9.out.below g10
    have HB10 : Hid (Below w.heap.size w w10) := HB9.out.trans (g10.mono HB9.out.size)
    have HW10 : Hid (OwnI w2.heap.size w3.heap.size b3 V w10) := HW9.out.below g10
    have HG10 : Hid (OwnI (w4.heap.size + 1) w5.heap.size b5 V w10) := HG9.out.below g10
    clear g10 HB9 HW9 HG9 HL9
    go_wp2_with fail
    refine (mark_ownI _ _ b5 c5 V _ hV HG10.out).mono ?_
    rintro e w11 ⟨rfl, o11, t11⟩
    have HL11 : Hid (Loc [(w4.heap.size, .slice b4 zs.length c4, 28), (w.heap.size, .slice a zs.length cap, 24)] w11) := HL10.out.out t11 (by
      intro x hx
      simp only [List.mem_cons, List.mem_nil_iff, or_false] at hx
      rcases hx with rfl | rfl <;> simp only <;> omega)
    have HB11 : Hid (Below w.heap.size w w11) := HB10.out.trans (t11.below (by omega) HB10.out.size)
    have HW11 : Hid (OwnI w2.heap.size w3.heap.size b3 V w11) := HW10.out.out t11 (by omega)
    have HG11 : Hid (OwnI (w4.heap.size + 1) w5.heap.size b5 (imarks V.length 1) w11) := o11
    have s11 := t11.size
    clear o11 t11 HB10 HW10 HG10 HL10
    go_wp2_with fail
    refine (held_ownI _ _ b5 c5 V.length _ hV HG11.out).mono ?_
    rintro e w12 ⟨rfl, g12⟩
    have hm12 : decide (((1 + V.length : Nat) : Int) < 0) = false := by simp; omega
    have s12 := g12.size
    have HL12 : Hid (Loc [(w4.heap.size, .slice b4 zs.length c4, 28), (w.heap.size, .slice a zs.length cap, 24)] w12) := HL11.out.below g12
    have HB12 : Hid (Below w.heap.size w w12) := HB11.out.trans (g12.mono HB11.out.size)
    have HW12 : Hid (OwnI w2.heap.size w3.heap.size b3 V w12) := HW11.out.below g12
    have HG12 : Hid (OwnI (w4.heap.size + 1) w5.heap.size b5 (imarks V.length 1) w12) := HG11.out.below g12
    clear g12 HB11 HW11 HG11 HL11
    have q2 := HL12.out.cell w.heap.size (.slice a zs.length cap) 24 (by simp)
    go_wp2_with fail
    refine (to_own a cap zs _ hn (HZ.out _ HB12.out)).mono ?_
    rintro e w13 ⟨b13, c13, rfl, o13, g13⟩
    have HB13 : Hid (Below w.heap.size w w13) := HB12.out.trans (g13.mono HB12.out.size)
    have HW13 : Hid (OwnI w2.heap.size w3.heap.size b3 V w13) := HW12.out.below g13
    have HG13 : Hid (OwnI (w4.heap.size + 1) w5.heap.size b5 (imarks V.length 1) w13) := HG12.out.below g13
    have HO13 : Hid (Own w12.heap.size w13.heap.size b13 zs w13) := o13
    clear g13 o13 HB12 HW12 HG12 HL12 q2
    go_wp2_with fail
    refine (H11.out b13 c13 _ HO13.out.zs).mono ?_
    rintro e w14 ⟨b14, c14, rfl, o14, g14⟩
    have HB14 : Hid (Below w.heap.size w w14) := HB13.out.trans (g14.mono HB13.out.size)
    have HW14 : Hid (OwnI w2.heap.size w3.heap.size b3 V w14) := HW13.out.below g14
    have HG14 : Hid (OwnI (w4.heap.size + 1) w5.heap.size b5 (imarks V.length 1) w14) := HG13.out.below g14
    have HH14 : Hid (OwnI w13.heap.size w14.heap.size b14 V w14) := o14
    clear g14 o14 HB13 HW13 HG13 HO13
    go_wp2_with fail
    refine (eqIntS_same b14 b3 c14 c3 V _ hV HH14.out.is HW14.out.is).mono ?_
    rintro e w15 ⟨rfl, g15⟩
    have HB15 : Hid (Below w.heap.size w w15) := HB14.out.trans (g15.mono HB14.out.size)
    have HG15 : Hid (OwnI (w4.heap.size + 1) w5.heap.size b5 (imarks V.length 1) w15) := HG14.out.below g15
    clear g15 HB14 HW14 HG14 HH14
    go_wp2_with fail
    refine (held_ownI _ _ b5 c5 V.length _ hV HG15.out).mono ?_
    rintro e w16 ⟨rfl, g16⟩
    have HB16 : Hid (Below w.heap.size w w16) := HB15.out.trans (g16.mono HB15.out.size)
    clear g16 HB15 HG15
    go_wp2
    go_ret
    exact ⟨rfl, HB16.out⟩
end Go.Proofs.Ytbalahgfikeobas
