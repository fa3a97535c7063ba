/- The exact law of AppendZone: its walk out of the contracts of the model and of the program. -/
import Derived.Test.YtbalahgfikeobarD
namespace Go.Proofs.Ytbalahgfikeobar
set_option maxRecDepth 100000
open Go.ChangeShapes Go.WideShapes Go.ChangeAt Go.RowKit
/-- function f answers V and ok of zones zs, in memory of its own -/
def TellsAppend (f : Nat) (zs : List Zn) (k : Int) (s : ByteArray) (V : List Zn) (at0 : Int) (ok : Bool) : Prop := ∀ (a : Option Addr) (cap : Nat) (w : World), Zs w.heap.size a zs w →
  Calls Try.prog f #[.agg #[.slice a zs.length cap], .int .i64 k, .string s] w fun e w' => ∃ b c, e = .returned (.tuple #[.agg #[.slice b V.length c], .int .i64 at0, .bool ok]) ∧ Own w.heap.size w'.heap.size b V w' ∧ Below w.heap.size w w'
set_option maxHeartbeats 8000000 in
theorem law_Append (a : Option Addr) (cap : Nat) (zs : List Zn) (k : Int) (s : ByteArray) (w : World) (hz : ∀ z ∈ zs, z.data.size ≤ 9223372036854775807) (hn0 : zs.length ≤ 9223372036854775807) (hZ : Zs w.heap.size a zs w)
    (hs : s.size ≤ 1048576) (H : zs.length ≤ 1048576 → (∀ z ∈ zs, z.data.size ≤ 1048576) → ∃ (V : List Zn) (at0 : Int) (ok : Bool), V.length ≤ 1048576 ∧ TellsAppend 19 zs k s V at0 ok ∧ TellsAppend 20 zs k s V at0 ok) :
    Calls Try.prog 6 #[.agg #[.slice a zs.length cap], .int .i64 k, .string s] w fun e w' => e = .returned (.bool true) ∧ Below w.heap.size w w' := by
  have HH : Hid (zs.length ≤ 1048576 → (∀ z ∈ zs, z.data.size ≤ 1048576) → ∃ (V : List Zn) (at0 : Int) (ok : Bool), V.length ≤ 1048576 ∧ TellsAppend 19 zs k s V at0 ok ∧ TellsAppend 20 zs k s V at0 ok) := H
  have HS : Hid (Calls Try.prog 15 #[.agg #[.slice a zs.length cap], .int .i64 1048576] (w.alloc (.cells #[.slice a zs.length cap] 35)) fun e w' => (∃ r : Int, e = .returned (.int .i64 r) ∧ (0 ≤ r → zs.length ≤ 1048576 ∧ ∀ z ∈ zs, z.data.size ≤ 1048576)) ∧ Below (w.alloc (.cells #[.slice a zs.length cap] 35)).heap.size (w.alloc (.cells #[.slice a zs.length cap] 35)) w') :=
    szDevice_any a cap zs _ hz hn0 ((hZ.below ((Below.refl _ _).alloc (Nat.le_refl _) _)).mono (by simp))
  have HZ : Hid (∀ v, Below w.heap.size w v → Zs v.heap.size a zs v) := fun v g => (hZ.below g).mono g.size
  have L0 : Loc [(w.heap.size, .slice a zs.length cap, 35)] (w.alloc (.cells #[.slice a zs.length cap] 35)) := (Loc.nil w).alloc _ _
  clear hz hn0 hZ H
  have hsd : decide ((1048576 : Int) < (s.size : Int)) = false := by simp; omega
  go_enter Try.func6, Try.ntmps6
  go_wp2_with fail
  refine (HS.out).mono ?_
  rintro e w1 ⟨⟨r, rfl, hr⟩, b1⟩
  have B1 : Below w.heap.size w w1 := ((Below.refl _ _).alloc (Nat.le_refl _) _).trans (b1.mono (by simp))
  by_cases r0 : 0 ≤ r
  case neg =>
    have hd1 : decide (r < 0) = true := by simp; omega
    have HB1 : Hid (Below w.heap.size w w1) := B1
    clear B1 b1 hr HS L0 HH
    go_wp2
    go_ret
    exact ⟨rfl, HB1.out⟩
  obtain ⟨hn, hsm⟩ := hr r0
  obtain ⟨V, at0, ok, hV, h9, h11⟩ := HH.out hn hsm
  have H9 : Hid (TellsAppend 19 zs k s V at0 ok) := h9
  have H11 : Hid (TellsAppend 20 zs k s V at0 ok) := h11
  have hd1 : decide (r < 0) = false := by simp; omega
  have L1 := L0.below b1
  clear h9 h11 HH hsm hr
  have q1 := L1.cell _ _ _ (List.mem_cons_self)
  have HB1 : Hid (Below w.heap.size w w1) := B1
  have HL1 : Hid (Loc [(w.heap.size, .slice a zs.length cap, 35)] w1) := L1
  clear L0 L1 B1 b1 HS
  go_wp2_with fail
  refine (to_own a cap zs _ hn (HZ.out _ HB1.out)).mono ?_
  rintro e w2 ⟨b2, c2, rfl, o2, g2⟩
  have HL2 : Hid (Loc [(w.heap.size, .slice a zs.length cap, 35)] w2) := HL1.out.below g2
  have HB2 : Hid (Below w.heap.size w w2) := HB1.out.trans (g2.mono HB1.out.size)
  have HO2 : Hid (Own w1.heap.size w2.heap.size b2 zs w2) := o2
  clear o2 g2 HL1 q1
  go_wp2_with fail
  refine (H9.out b2 c2 _ HO2.out.zs).mono ?_
  rintro e w3 ⟨b3, c3, rfl, o3, g3⟩
  have q2 := (HL2.out.below g3).cell _ _ _ (List.mem_cons_self)
  have HL3 : Hid (Loc [(w3.heap.size, .slice b3 V.length c3, 27), (w.heap.size, .slice a zs.length cap, 35)] (w3.alloc (.cells #[.slice b3 V.length c3] 27))) := (HL2.out.below g3).alloc _ _
  have HB3 : Hid (Below w.heap.size w w3) := HB2.out.trans (g3.mono HB2.out.size)
  have HO3 : Hid (Own w2.heap.size w3.heap.size b3 V w3) := o3
  have hlt3 : w.heap.size < w3.heap.size := (HL2.out.below g3).lt _ (List.mem_cons_self)
  clear o3 g3 HL2 HO2 HB2 H9
  have z3 : (w3.alloc (.cells #[.slice b3 V.length c3] 27)).heap.size = w3.heap.size + 1 := heap_size _ _
  have HB3a : Hid (Below w.heap.size w (w3.alloc (.cells #[.slice b3 V.length c3] 27))) := HB3.out.alloc HB3.out.size _
  have HO3a : Hid (Own w2.heap.size w3.heap.size b3 V (w3.alloc (.cells #[.slice b3 V.length c3] 27))) := HO3.out.below ((Below.refl _ _).alloc (Nat.le_refl _) _)
  clear HO3 HB3
  -- x0
  go_wp2_with fail
  refine (to_own a cap zs _ hn (HZ.out _ HB3a.out)).mono ?_
  rintro e w4 ⟨b4, c4, rfl, o4, g4⟩
  have s4 := g4.size
  rw [z3] at s4 o4
  have HL4 : Hid (Loc [(w4.heap.size, .slice b4 zs.length c4, 27), (w3.heap.size, .slice b3 V.length c3, 27), (w.heap.size, .slice a zs.length cap, 35)] (w4.alloc (.cells #[.slice b4 zs.length c4] 27))) := (HL3.out.below g4).alloc _ _
  have z4 : (w4.alloc (.cells #[.slice b4 zs.length c4] 27)).heap.size = w4.heap.size + 1 := heap_size _ _
  have HB4 : Hid (Below w.heap.size w (w4.alloc (.cells #[.slice b4 zs.length c4] 27))) := (HB3a.out.trans (g4.mono HB3a.out.size)).alloc (HB3a.out.trans (g4.mono HB3a.out.size)).size _
  have HW4 : Hid (Own w2.heap.size w3.heap.size b3 V (w4.alloc (.cells #[.slice b4 zs.length c4] 27))) := (HO3a.out.below g4).below ((Below.refl _ _).alloc (Nat.le_refl _) _)
  have HX4 : Hid (Own (w3.heap.size + 1) w4.heap.size b4 zs (w4.alloc (.cells #[.slice b4 zs.length c4] 27))) := o4.below ((Below.refl _ _).alloc (Nat.le_refl _) _)
  clear o4 g4 HB3a HO3a HL3 q2 z3
  -- g0
  go_wp2_with fail
  refine (H11.out b4 c4 _ HX4.out.zs).mono ?_
  rintro e w5 ⟨b5, c5, rfl, o5, g5⟩
  have s5 := g5.size
  rw [z4] at s5 o5
  have HL5 : Hid (Loc [(w5.heap.size, .slice b5 V.length c5, 27), (w4.heap.size, .slice b4 zs.length c4, 27), (w3.heap.size, .slice b3 V.length c3, 27), (w.heap.size, .slice a zs.length cap, 35)] (w5.alloc (.cells #[.slice b5 V.length c5] 27))) := (HL4.out.below g5).alloc _ _
  have q6 := HL5.out.cell w3.heap.size (.slice b3 V.length c3) 27 (by simp)
  have z5 : (w5.alloc (.cells #[.slice b5 V.length c5] 27)).heap.size = w5.heap.size + 1 := heap_size _ _
  have HB5 : Hid (Below w.heap.size w (w5.alloc (.cells #[.slice b5 V.length c5] 27))) := (HB4.out.trans (g5.mono HB4.out.size)).alloc (HB4.out.trans (g5.mono HB4.out.size)).size _
  have HW5 : Hid (Own w2.heap.size w3.heap.size b3 V (w5.alloc (.cells #[.slice b5 V.length c5] 27))) := (HW4.out.below g5).below ((Below.refl _ _).alloc (Nat.le_refl _) _)
  have HX5 : Hid (Own (w3.heap.size + 1) w4.heap.size b4 zs (w5.alloc (.cells #[.slice b5 V.length c5] 27))) := (HX4.out.below g5).below ((Below.refl _ _).alloc (Nat.le_refl _) _)
  have HG5 : Hid (Own (w4.heap.size + 1) w5.heap.size b5 V (w5.alloc (.cells #[.slice b5 V.length c5] 27))) := o5.below ((Below.refl _ _).alloc (Nat.le_refl _) _)
  clear o5 g5 HB4 HW4 HX4 HL4 z4
  -- g0 against w0
  go_wp2_with fail
  refine (eqDevice_same b5 b3 c5 c3 V _ hV HG5.out.zs HW5.out.zs).mono ?_
  rintro e w6 ⟨rfl, g6⟩
  have s6 := g6.size
  rw [z5] at s6
  have HL6 : Hid (Loc [(w5.heap.size, .slice b5 V.length c5, 27), (w4.heap.size, .slice b4 zs.length c4, 27), (w3.heap.size, .slice b3 V.length c3, 27), (w.heap.size, .slice a zs.length cap, 35)] w6) := HL5.out.below g6
  have HB6 : Hid (Below w.heap.size w w6) := HB5.out.trans (g6.mono HB5.out.size)
  have HW6 : Hid (Own w2.heap.size w3.heap.size b3 V w6) := HW5.out.below g6
  have HX6 : Hid (Own (w3.heap.size + 1) w4.heap.size b4 zs w6) := HX5.out.below g6
  have HG6 : Hid (Own (w4.heap.size + 1) w5.heap.size b5 V w6) := HG5.out.below g6
  have q8 := HL6.out.cell w4.heap.size (.slice b4 zs.length c4) 27 (by simp)
  have q2 := HL6.out.cell w.heap.size (.slice a zs.length cap) 35 (by simp)
  clear g6 HB5 HW5 HX5 HG5 HL5 z5 q6
  have hZ6 : Zs w6.drew.heap.size a zs w6.drew := HZ.out w6.drew HB6.out.drew
  have HZ6 : Hid (Zs w6.drew.heap.size a zs w6.drew) := hZ6
  clear hZ6
  go_wp2_with fail
  go_region_with (first | (go_at_call 17; refine (to_own a cap zs _ hn HZ6.out).mono ?_; rintro e w7 ⟨b7, c7, rfl, o7, g7⟩; have q8b := (HL6.out.below (show Below w6.heap.size w6 w7 from ⟨g7.os, g7.tape, g7.output, g7.size, g7.block⟩)).cell w4.heap.size (.slice b4 zs.length c4) 27 (by simp)) | (go_at_call 12; refine (eqDevice_same b4 b7 c4 c7 zs _ hn (HX6.out.below (show Below w6.heap.size w6 w7 from ⟨g7.os, g7.tape, g7.output, g7.size, g7.block⟩)).zs o7.zs).mono ?_; rintro e w8 ⟨rfl, g8⟩))
  all_goals
    have g7b : Below w6.heap.size w6 w7 := ⟨g7.os, g7.tape, g7.output, g7.size, g7.block⟩
    have g78 : Below w6.heap.size w6 w8 := g7b.trans (g8.mono g7b.size)
    have HL8 : Hid (Loc [(w5.heap.size, .slice b5 V.length c5, 27), (w4.heap.size, .slice b4 zs.length c4, 27), (w3.heap.size, .slice b3 V.length c3, 27), (w.heap.size, .slice a zs.length cap, 35)] w8) := HL6.out.below g78
    have HB8 : Hid (Below w.heap.size w w8) := HB6.out.trans (g78.mono HB6.out.size)
    have HW8 : Hid (Own w2.heap.size w3.heap.size b3 V w8) := HW6.out.below g78
    have HX8 : Hid (Own (w3.heap.size + 1) w4.heap.size b4 zs w8) := HX6.out.below g78
    have HG8 : Hid (Own (w4.heap.size + 1) w5.heap.size b5 V w8) := HG6.out.below g78
    have s8 := g78.size
    clear g7 g8 g7b g78 o7 HB6 HW6 HX6 HG6 HL6 HZ6 q8 q2
    have q8 := HL8.out.cell w4.heap.size (.slice b4 zs.length c4) 27 (by simp)
    go_wp2_with fail
    refine (mark_own _ _ b4 c4 zs _ hn HX8.out).mono ?_
    rintro e w9 ⟨rfl, o9, t9⟩
    have hm9 : decide (((1 + 3 * zs.length : Nat) : Int) < 0) = false := by simp; omega
    have HL9 : Hid (Loc [(w5.heap.size, .slice b5 V.length c5, 27), (w4.heap.size, .slice b4 zs.length c4, 27), (w3.heap.size, .slice b3 V.length c3, 27), (w.heap.size, .slice a zs.length cap, 35)] w9) := HL8.out.out t9 (by
      intro x hx
      simp only [List.mem_cons, List.mem_nil_iff, or_false] at hx
      rcases hx with rfl | rfl | rfl | rfl <;> simp only <;> omega)
    have HB9 : Hid (Below w.heap.size w w9) := HB8.out.trans (t9.below (by omega) HB8.out.size)
    have HW9 : Hid (Own w2.heap.size w3.heap.size b3 V w9) := HW8.out.out t9 (by omega)
    have HG9 : Hid (Own (w4.heap.size + 1) w5.heap.size b5 V w9) := HG8.out.out t9 (by omega)
    have s9 := t9.size
    clear o9 t9 HB8 HW8 HX8 HG8 HL8 q8
    have q9 := HL9.out.cell w5.heap.size (.slice b5 V.length c5) 27 (by simp)
    have q6 := HL9.out.cell w3.heap.size (.slice b3 V.length c3) 27 (by simp)
    generalize 1 + 3 * zs.length = m9 at *
    go_wp2_with fail
    refine (eqDevice_same b5 b3 c5 c3 V _ hV HG9.out.zs HW9.out.zs).mono ?_
    rintro e w10 ⟨rfl, g10⟩
    have s10 := g10.size
    have HL10 : Hid (Loc [(w5.heap.size, .slice b5 V.length c5, 27), (w4.heap.size, .slice b4 zs.length c4, 27), (w3.heap.size, .slice b3 V.length c3, 27), (w.heap.size, .slice a zs.length cap, 35)] w10) := HL9.out.below g10
    have HB10 : Hid (Below w.heap.size w w10) := HB9.out.trans (g10.mono HB9.out.size)
    have HW10 : Hid (Own w2.heap.size w3.heap.size b3 V w10) := HW9.out.below g10
    have HG10 : Hid (Own (w4.heap.size + 1) w5.heap.size b5 V w10) := HG9.out.below g10
    clear g10 HB9 HW9 HG9 HL9 q9 q6
    have q9 := HL10.out.cell w5.heap.size (.slice b5 V.length c5) 27 (by simp)
    go_wp2_with fail
    refine (mark_own _ _ b5 c5 V _ hV HG10.out).mono ?_
    rintro e w11 ⟨rfl, o11, t11⟩
    have HL11 : Hid (Loc [(w5.heap.size, .slice b5 V.length c5, 27), (w4.heap.size, .slice b4 zs.length c4, 27), (w3.heap.size, .slice b3 V.length c3, 27), (w.heap.size, .slice a zs.length cap, 35)] w11) := HL10.out.out t11 (by
      intro x hx
      simp only [List.mem_cons, List.mem_nil_iff, or_false] at hx
      rcases hx with rfl | rfl | rfl | rfl <;> simp only <;> omega)
    have HB11 : Hid (Below w.heap.size w w11) := HB10.out.trans (t11.below (by omega) HB10.out.size)
    have HW11 : Hid (Own w2.heap.size w3.heap.size b3 V w11) := HW10.out.out t11 (by omega)
    have HG11 : Hid (Own (w4.heap.size + 1) w5.heap.size b5 (marks V.length 1) w11) := o11
    have s11 := t11.size
    clear o11 t11 HB10 HW10 HG10 HL10 q9
    have q9 := HL11.out.cell w5.heap.size (.slice b5 V.length c5) 27 (by simp)
    go_wp2_with fail
    refine (held_own _ _ b5 c5 V.length _ hV HG11.out).mono ?_
    rintro e w12 ⟨rfl, g12⟩
    have hm12 : decide (((1 + 3 * V.length : Nat) : Int) < 0) = false := by simp; omega
    have s12 := g12.size
    have HL12 : Hid (Loc [(w5.heap.size, .slice b5 V.length c5, 27), (w4.heap.size, .slice b4 zs.length c4, 27), (w3.heap.size, .slice b3 V.length c3, 27), (w.heap.size, .slice a zs.length cap, 35)] w12) := HL11.out.below g12
    have HB12 : Hid (Below w.heap.size w w12) := HB11.out.trans (g12.mono HB11.out.size)
    have HW12 : Hid (Own w2.heap.size w3.heap.size b3 V w12) := HW11.out.below g12
    have HG12 : Hid (Own (w4.heap.size + 1) w5.heap.size b5 (marks V.length 1) w12) := HG11.out.below g12
    clear g12 HB11 HW11 HG11 HL11 q9
    have q2 := HL12.out.cell w.heap.size (.slice a zs.length cap) 35 (by simp)
    go_wp2_with fail
    refine (to_own a cap zs _ hn (HZ.out _ HB12.out)).mono ?_
    rintro e w13 ⟨b13, c13, rfl, o13, g13⟩
    have s13 := g13.size
    have HL13 : Hid (Loc [(w5.heap.size, .slice b5 V.length c5, 27), (w4.heap.size, .slice b4 zs.length c4, 27), (w3.heap.size, .slice b3 V.length c3, 27), (w.heap.size, .slice a zs.length cap, 35)] w13) := HL12.out.below g13
    have HB13 : Hid (Below w.heap.size w w13) := HB12.out.trans (g13.mono HB12.out.size)
    have HW13 : Hid (Own w2.heap.size w3.heap.size b3 V w13) := HW12.out.below g13
    have HG13 : Hid (Own (w4.heap.size + 1) w5.heap.size b5 (marks V.length 1) w13) := HG12.out.below g13
    have HO13 : Hid (Own w12.heap.size w13.heap.size b13 zs w13) := o13
    clear g13 o13 HB12 HW12 HG12 HL12 q2
    go_wp2_with fail
    refine (H11.out b13 c13 _ HO13.out.zs).mono ?_
    rintro e w14 ⟨b14, c14, rfl, o14, g14⟩
    have s14 := g14.size
    have HL14 : Hid (Loc [(w14.heap.size, .slice b14 V.length c14, 27), (w5.heap.size, .slice b5 V.length c5, 27), (w4.heap.size, .slice b4 zs.length c4, 27), (w3.heap.size, .slice b3 V.length c3, 27), (w.heap.size, .slice a zs.length cap, 35)] (w14.alloc (.cells #[.slice b14 V.length c14] 27))) := (HL13.out.below g14).alloc _ _
    have HB14 : Hid (Below w.heap.size w (w14.alloc (.cells #[.slice b14 V.length c14] 27))) := (HB13.out.trans (g14.mono HB13.out.size)).alloc (HB13.out.trans (g14.mono HB13.out.size)).size _
    have HW14 : Hid (Own w2.heap.size w3.heap.size b3 V (w14.alloc (.cells #[.slice b14 V.length c14] 27))) := (HW13.out.below g14).below ((Below.refl _ _).alloc (Nat.le_refl _) _)
    have HG14 : Hid (Own (w4.heap.size + 1) w5.heap.size b5 (marks V.length 1) (w14.alloc (.cells #[.slice b14 V.length c14] 27))) := (HG13.out.below g14).below ((Below.refl _ _).alloc (Nat.le_refl _) _)
    have HH14 : Hid (Own w13.heap.size w14.heap.size b14 V (w14.alloc (.cells #[.slice b14 V.length c14] 27))) := o14.below ((Below.refl _ _).alloc (Nat.le_refl _) _)
    clear g14 o14 HB13 HW13 HG13 HL13 HO13
    have q6 := HL14.out.cell w3.heap.size (.slice b3 V.length c3) 27 (by simp)
    go_wp2_with fail
    refine (eqDevice_same b14 b3 c14 c3 V _ hV HH14.out.zs HW14.out.zs).mono ?_
    rintro e w15 ⟨rfl, g15⟩
    have s15 := g15.size
    have HL15 : Hid (Loc [(w14.heap.size, .slice b14 V.length c14, 27), (w5.heap.size, .slice b5 V.length c5, 27), (w4.heap.size, .slice b4 zs.length c4, 27), (w3.heap.size, .slice b3 V.length c3, 27), (w.heap.size, .slice a zs.length cap, 35)] w15) := HL14.out.below g15
    have HB15 : Hid (Below w.heap.size w w15) := HB14.out.trans (g15.mono HB14.out.size)
    have HG15 : Hid (Own (w4.heap.size + 1) w5.heap.size b5 (marks V.length 1) w15) := HG14.out.below g15
    clear g15 HB14 HW14 HG14 HH14 HL14 q6
    have q9 := HL15.out.cell w5.heap.size (.slice b5 V.length c5) 27 (by simp)
    go_wp2_with fail
    refine (held_own _ _ b5 c5 V.length _ hV HG15.out).mono ?_
    rintro e w16 ⟨rfl, g16⟩
    have HB16 : Hid (Below w.heap.size w w16) := HB15.out.trans (g16.mono HB15.out.size)
    clear g16 HB15 HG15 HL15 q9
    go_wp2
    go_ret
    exact ⟨rfl, HB16.out⟩
end Go.Proofs.Ytbalahgfikeobar
