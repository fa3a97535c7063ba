/- The exact law of CrashDevice: its walk out of the contracts of the model and of the program. -/
import Derived.Test.YtbalahgfikeobasICrashZ
namespace Go.Proofs.Ytbalahgfikeobas
set_option maxRecDepth 100000
open Go.ChangeShapes Go.WideShapes Go.ChangeAt Go.RowKit
theorem mark_ownK (lo hi : Nat) (a : Option Addr) (c k0 : Nat) (l : List Int) (w : World) (hn : l.length ≤ 1048576) (k1 : 1 ≤ k0) (k2 : k0 ≤ 10000000) (h : OwnI lo hi a l w) :
    Calls Try.prog 21 #[.slice a l.length c, .int .i64 k0] w fun e w' => e = .returned (.int .i64 (k0 + l.length : Nat)) ∧ OwnI lo hi a (imarks l.length k0) w' ∧ Out lo hi w w' := by
  rcases h with rfl | ⟨R, h1, h3, rfl, hr⟩
  · exact (markIntS_none a c k0 w).mono fun e w' ⟨he, hb⟩ => ⟨he, Or.inl rfl, by subst hb; exact Out.refl _ _ _⟩
  · exact (markIntS_row R c k0 l w hn k1 k2 hr).mono fun e w' ⟨he, hrow, hb⟩ => ⟨he, Or.inr ⟨R, h1, h3, rfl, hrow⟩, Out.ofBut hb h1 h3⟩
/-- function f answers V and ok of zones zs and numbers ks, in memory of its own -/
def TellsCrash (f : Nat) (zs : List Zn) (ks : List Int) (V : List Zn) (ok : Bool) : Prop := ∀ (a : Option Addr) (cap : Nat) (ka : Option Addr) (kc : Nat) (w : World), Zs w.heap.size a zs w → Is w.heap.size ka ks w →
  Calls Try.prog f #[.agg #[.slice a zs.length cap], .slice ka ks.length kc] w fun e w' => ∃ b c, e = .returned (.tuple #[.agg #[.slice b V.length c], .bool ok]) ∧ Own w.heap.size w'.heap.size b V w' ∧ Below w.heap.size w w'
set_option maxHeartbeats 16000000 in
theorem law_Crash (a : Option Addr) (cap : Nat) (zs : List Zn) (ka : Option Addr) (kc : Nat) (ks : List Int) (w : World) (hz : ∀ z ∈ zs, z.data.size ≤ 9223372036854775807) (hn0 : zs.length ≤ 9223372036854775807) (hZ : Zs w.heap.size a zs w) (hks : ks.length ≤ 1048576) (hI : Is w.heap.size ka ks w)
    (H : zs.length ≤ 1048576 → (∀ z ∈ zs, z.data.size ≤ 1048576) → ∃ (V : List Zn) (ok : Bool), V.length ≤ 1048576 ∧ TellsCrash 17 zs ks V ok ∧ TellsCrash 19 zs ks V ok) :
    Calls Try.prog 5 #[.agg #[.slice a zs.length cap], .slice ka ks.length kc] w fun e w' => e = .returned (.bool true) ∧ Below w.heap.size w w' := by
  have HH : Hid (zs.length ≤ 1048576 → (∀ z ∈ zs, z.data.size ≤ 1048576) → ∃ (V : List Zn) (ok : Bool), V.length ≤ 1048576 ∧ TellsCrash 17 zs ks V ok ∧ TellsCrash 19 zs ks V ok) := H
  have HS : Hid (Calls Try.prog 8 #[.agg #[.slice a zs.length cap], .int .i64 1048576] (w.alloc (.cells #[.slice a zs.length cap] 24)) fun e w' => (∃ r : Int, e = .returned (.int .i64 r) ∧ (0 ≤ r → zs.length ≤ 1048576 ∧ ∀ z ∈ zs, z.data.size ≤ 1048576)) ∧ Below (w.alloc (.cells #[.slice a zs.length cap] 24)).heap.size (w.alloc (.cells #[.slice a zs.length cap] 24)) w') :=
    szDevice_any a cap zs _ hz hn0 ((hZ.below ((Below.refl _ _).alloc (Nat.le_refl _) _)).mono (by simp))
  have HZ : Hid (∀ v, Below w.heap.size w v → Zs v.heap.size a zs v) := fun v g => (hZ.below g).mono g.size
  have HI : Hid (∀ v, Below w.heap.size w v → Is v.heap.size ka ks v) := fun v g => (hI.below g).mono g.size
  have L0 : Loc [(w.heap.size, .slice a zs.length cap, 24)] (w.alloc (.cells #[.slice a zs.length cap] 24)) := (Loc.nil w).alloc _ _
  have hksd : decide ((1048576 : Int) < (ks.length : Int)) = false := by simp; omega
  clear hz hn0 hZ H hI
  go_enter Try.func5, Try.ntmps5
  go_wp2_with fail
  refine (HS.out).mono ?_
  rintro e w1 ⟨⟨r, rfl, hr⟩, b1⟩
  have B1 : Below w.heap.size w w1 := ((Below.refl _ _).alloc (Nat.le_refl _) _).trans (b1.mono (by simp))
  by_cases r0 : 0 ≤ r
  case neg =>
    have hd1 : decide (r < 0) = true := by simp; omega
    have HB1 : Hid (Below w.heap.size w w1) := B1
    clear B1 b1 hr HS L0 HH
    go_wp2
    go_ret
    exact ⟨rfl, HB1.out⟩
  obtain ⟨hn, hsm⟩ := hr r0
  obtain ⟨V, ok, hV, h9, h11⟩ := HH.out hn hsm
  have H9 : Hid (TellsCrash 17 zs ks V ok) := h9
  have H11 : Hid (TellsCrash 19 zs ks V ok) := h11
  have hd1 : decide (r < 0) = false := by simp; omega
  have L1 := L0.below b1
  clear h9 h11 HH hsm hr
  have q1 := L1.cell _ _ _ (List.mem_cons_self)
  have HB1 : Hid (Below w.heap.size w w1) := B1
  have HL1 : Hid (Loc [(w.heap.size, .slice a zs.length cap, 24)] w1) := L1
  clear L0 L1 B1 b1 HS
  go_wp2_with fail
  refine (to_own a cap zs _ hn (HZ.out _ HB1.out)).mono ?_
  rintro e w2 ⟨b2, c2, rfl, o2, g2⟩
  have HL2 : Hid (Loc [(w.heap.size, .slice a zs.length cap, 24)] w2) := HL1.out.below g2
  have HB2 : Hid (Below w.heap.size w w2) := HB1.out.trans (g2.mono HB1.out.size)
  have HO2 : Hid (Own w1.heap.size w2.heap.size b2 zs w2) := o2
  clear HL1 o2 g2 q1
  go_wp2_with fail
  refine (toIntS_any ka kc ks _ hks (HI.out _ HB2.out)).mono ?_
  rintro e w2i ⟨bi, ci, rfl, oi, gi⟩
  have HL2i : Hid (Loc [(w.heap.size, .slice a zs.length cap, 24)] w2i) := HL2.out.below gi
  have HB2i : Hid (Below w.heap.size w w2i) := HB2.out.trans (gi.mono HB2.out.size)
  have HO2i : Hid (Own w1.heap.size w2.heap.size b2 zs w2i) := HO2.out.below gi
  have HJ2i : Hid (OwnI w2.heap.size w2i.heap.size bi ks w2i) := oi
  clear HL2 HB2 HO2 oi gi
  go_wp2_with fail
  refine (H9.out b2 c2 bi ci _ HO2i.out.zs HJ2i.out.is).mono ?_
  rintro e w3 ⟨b3, c3, rfl, o3, g3⟩
  have lt3 : w.heap.size < w2i.heap.size := HL2i.out.lt (w.heap.size, .slice a zs.length cap, 24) (by simp)
  have s3 := g3.size
  have HL3 : Hid (Loc [(w.heap.size, .slice a zs.length cap, 24)] w3) := HL2i.out.below g3
  have HB3 : Hid (Below w.heap.size w w3) := HB2i.out.trans (g3.mono HB2i.out.size)
  have z3 : (w3.alloc (.cells #[.slice b3 V.length c3] 28)).heap.size = w3.heap.size + 1 := heap_size _ _
  have HL3a : Hid (Loc [(w3.heap.size, .slice b3 V.length c3, 28), (w.heap.size, .slice a zs.length cap, 24)] (w3.alloc (.cells #[.slice b3 V.length c3] 28))) := HL3.out.alloc _ _
  have HB3a : Hid (Below w.heap.size w (w3.alloc (.cells #[.slice b3 V.length c3] 28))) := HB3.out.alloc HB3.out.size _
  have HW3a : Hid (Own w2i.heap.size w3.heap.size b3 V (w3.alloc (.cells #[.slice b3 V.length c3] 28))) := o3.below ((Below.refl _ _).alloc (Nat.le_refl _) _)
  have q2 := HL3a.out.cell w.heap.size (.slice a zs.length cap) 24 (by simp)
  clear o3 g3 HL3 HB3 HL2i HB2i HO2i HJ2i H9
  go_wp2_with fail
  refine (to_own a cap zs _ hn (HZ.out _ HB3a.out)).mono ?_
  rintro e w4 ⟨b4, c4, rfl, o4, g4⟩
  have s4 := g4.size
  rw [z3] at s4 o4
  have HL4 : Hid (Loc [(w3.heap.size, .slice b3 V.length c3, 28), (w.heap.size, .slice a zs.length cap, 24)] w4) := HL3a.out.below g4
  have HB4 : Hid (Below w.heap.size w w4) := HB3a.out.trans (g4.mono HB3a.out.size)
  have HW4 : Hid (Own w2i.heap.size w3.heap.size b3 V w4) := HW3a.out.below g4
  have z4 : (w4.alloc (.cells #[.slice b4 zs.length c4] 28)).heap.size = w4.heap.size + 1 := heap_size _ _
  have HL4a : Hid (Loc [(w4.heap.size, .slice b4 zs.length c4, 28), (w3.heap.size, .slice b3 V.length c3, 28), (w.heap.size, .slice a zs.length cap, 24)] (w4.alloc (.cells #[.slice b4 zs.length c4] 28))) := HL4.out.alloc _ _
  have HB4a : Hid (Below w.heap.size w (w4.alloc (.cells #[.slice b4 zs.length c4] 28))) := HB4.out.alloc HB4.out.size _
  have HW4a : Hid (Own w2i.heap.size w3.heap.size b3 V (w4.alloc (.cells #[.slice b4 zs.length c4] 28))) := HW4.out.below ((Below.refl _ _).alloc (Nat.le_refl _) _)
  have HX4a : Hid (Own (w3.heap.size + 1) w4.heap.size b4 zs (w4.alloc (.cells #[.slice b4 zs.length c4] 28))) := o4.below ((Below.refl _ _).alloc (Nat.le_refl _) _)
  clear o4 g4 HL4 HB4 HW4 HL3a HB3a HW3a z3 q2
  go_wp2_with fail
  refine (toIntS_any ka kc ks _ hks (HI.out _ HB4a.out)).mono ?_
  rintro e w4i ⟨bk, ck, rfl, oi, gi⟩
  have s4i := gi.size
  rw [z4] at s4i oi
  have HL4i : Hid (Loc [(w4.heap.size, .slice b4 zs.length c4, 28), (w3.heap.size, .slice b3 V.length c3, 28), (w.heap.size, .slice a zs.length cap, 24)] w4i) := HL4a.out.below gi
  have HB4i : Hid (Below w.heap.size w w4i) := HB4a.out.trans (gi.mono HB4a.out.size)
  have HW4i : Hid (Own w2i.heap.size w3.heap.size b3 V w4i) := HW4a.out.below gi
  have HX4i : Hid (Own (w3.heap.size + 1) w4.heap.size b4 zs w4i) := HX4a.out.below gi
  have HY4i : Hid (OwnI (w4.heap.size + 1) w4i.heap.size bk ks w4i) := oi
  have q4 := HL4i.out.cell w4.heap.size (.slice b4 zs.length c4) 28 (by simp)
  clear oi gi HL4a HB4a HW4a HX4a z4
  go_wp2_with fail
  refine (H11.out b4 c4 bk ck _ HX4i.out.zs HY4i.out.is).mono ?_
  rintro e w5 ⟨b5, c5, rfl, o5, g5⟩
  have s5 := g5.size
  have HL5 : Hid (Loc [(w4.heap.size, .slice b4 zs.length c4, 28), (w3.heap.size, .slice b3 V.length c3, 28), (w.heap.size, .slice a zs.length cap, 24)] w5) := HL4i.out.below g5
  have HB5 : Hid (Below w.heap.size w w5) := HB4i.out.trans (g5.mono HB4i.out.size)
  have HW5 : Hid (Own w2i.heap.size w3.heap.size b3 V w5) := HW4i.out.below g5
  have HX5 : Hid (Own (w3.heap.size + 1) w4.heap.size b4 zs w5) := HX4i.out.below g5
  have HY5 : Hid (OwnI (w4.heap.size + 1) w4i.heap.size bk ks w5) := HY4i.out.below g5
  have z5 : (w5.alloc (.cells #[.slice b5 V.length c5] 28)).heap.size = w5.heap.size + 1 := heap_size _ _
  have HL5a : Hid (Loc [(w5.heap.size, .slice b5 V.length c5, 28), (w4.heap.size, .slice b4 zs.length c4, 28), (w3.heap.size, .slice b3 V.length c3, 28), (w.heap.size, .slice a zs.length cap, 24)] (w5.alloc (.cells #[.slice b5 V.length c5] 28))) := HL5.out.alloc _ _
  have HB5a : Hid (Below w.heap.size w (w5.alloc (.cells #[.slice b5 V.length c5] 28))) := HB5.out.alloc HB5.out.size _
  have HW5a : Hid (Own w2i.heap.size w3.heap.size b3 V (w5.alloc (.cells #[.slice b5 V.length c5] 28))) := HW5.out.below ((Below.refl _ _).alloc (Nat.le_refl _) _)
  have HX5a : Hid (Own (w3.heap.size + 1) w4.heap.size b4 zs (w5.alloc (.cells #[.slice b5 V.length c5] 28))) := HX5.out.below ((Below.refl _ _).alloc (Nat.le_refl _) _)
  have HY5a : Hid (OwnI (w4.heap.size + 1) w4i.heap.size bk ks (w5.alloc (.cells #[.slice b5 V.length c5] 28))) := HY5.out.below ((Below.refl _ _).alloc (Nat.le_refl _) _)
  have HG5a : Hid (Own w4i.heap.size w5.heap.size b5 V (w5.alloc (.cells #[.slice b5 V.length c5] 28))) := o5.below ((Below.refl _ _).alloc (Nat.le_refl _) _)
  have q6 := HL5a.out.cell w3.heap.size (.slice b3 V.length c3) 28 (by simp)
  clear o5 g5 HL5 HB5 HW5 HX5 HY5 HL4i HB4i HW4i HX4i HY4i q4
  go_wp2_with fail
  refine (eqDevice_same b5 b3 c5 c3 V _ hV HG5a.out.zs HW5a.out.zs).mono ?_
  rintro e w6 ⟨rfl, g6⟩
  have s6 := g6.size
  rw [z5] at s6
  have HL6 : Hid (Loc [(w5.heap.size, .slice b5 V.length c5, 28), (w4.heap.size, .slice b4 zs.length c4, 28), (w3.heap.size, .slice b3 V.length c3, 28), (w.heap.size, .slice a zs.length cap, 24)] w6) := HL5a.out.below g6
  have HB6 : Hid (Below w.heap.size w w6) := HB5a.out.trans (g6.mono HB5a.out.size)
  have HW6 : Hid (Own w2i.heap.size w3.heap.size b3 V w6) := HW5a.out.below g6
  have HX6 : Hid (Own (w3.heap.size + 1) w4.heap.size b4 zs w6) := HX5a.out.below g6
  have HY6 : Hid (OwnI (w4.heap.size + 1) w4i.heap.size bk ks w6) := HY5a.out.below g6
  have HG6 : Hid (Own w4i.heap.size w5.heap.size b5 V w6) := HG5a.out.below g6
  have q8 := HL6.out.cell w4.heap.size (.slice b4 zs.length c4) 28 (by simp)
  have q2 := HL6.out.cell w.heap.size (.slice a zs.length cap) 24 (by simp)
  clear HL5a HB5a HW5a HX5a HY5a HG5a g6 z5 q6
  have HZ6 : Hid (Zs w6.drew.heap.size a zs w6.drew) := HZ.out w6.drew HB6.out.drew
  go_wp2_with fail
  go_region_with (first | (go_at_call 10; refine (to_own a cap zs _ hn HZ6.out).mono ?_; rintro e w7 ⟨b7, c7, rfl, o7, g7⟩; have q8b := (HL6.out.below (show Below w6.heap.size w6 w7 from ⟨g7.os, g7.tape, g7.output, g7.size, g7.block⟩)).cell w4.heap.size (.slice b4 zs.length c4) 28 (by simp)) | (go_at_call 12; refine (eqDevice_same b4 b7 c4 c7 zs _ hn (HX6.out.below (show Below w6.heap.size w6 w7 from ⟨g7.os, g7.tape, g7.output, g7.size, g7.block⟩)).zs o7.zs).mono ?_; rintro e w8 ⟨rfl, g8⟩))
  all_goals
    have g7b : Below w6.heap.size w6 w7 := ⟨g7.os, g7.tape, g7.output, g7.size, g7.block⟩
    have g78 : Below w6.heap.size w6 w8 := g7b.trans (g8.mono g7b.size)
    have s8 := g78.size
    have HL8 : Hid (Loc [(w5.heap.size, .slice b5 V.length c5, 28), (w4.heap.size, .slice b4 zs.length c4, 28), (w3.heap.size, .slice b3 V.length c3, 28), (w.heap.size, .slice a zs.length cap, 24)] w8) := HL6.out.below g78
    have HB8 : Hid (Below w.heap.size w w8) := HB6.out.trans (g78.mono HB6.out.size)
    have HW8 : Hid (Own w2i.heap.size w3.heap.size b3 V w8) := HW6.out.below g78
    have HX8 : Hid (Own (w3.heap.size + 1) w4.heap.size b4 zs w8) := HX6.out.below g78
    have HY8 : Hid (OwnI (w4.heap.size + 1) w4i.heap.size bk ks w8) := HY6.out.below g78
    have HG8 : Hid (Own w4i.heap.size w5.heap.size b5 V w8) := HG6.out.below g78
    clear g7 g8 g7b g78 o7 HZ6 q8 q2
    clear HL6 HB6 HW6 HX6 HY6 HG6
    go_wp2_with fail
    refine (toIntS_any ka kc ks _ hks (HI.out _ HB8.out)).mono ?_
    rintro e w8i ⟨bl, cl, rfl, oi, gi⟩
    have HY8i : Hid (OwnI (w4.heap.size + 1) w4i.heap.size bk ks w8i) := HY8.out.below gi
    have HQ8i : Hid (OwnI w8.heap.size w8i.heap.size bl ks w8i) := oi
    have GI : Hid (Below w8.heap.size w8 w8i) := gi
    clear oi gi
    go_wp2_with fail
    refine (eqIntS_same bk bl ck cl ks _ hks HY8i.out.is HQ8i.out.is).mono ?_
    rintro e w8j ⟨rfl, g8⟩
    have g8j : Below w8.heap.size w8 w8j := GI.out.trans (g8.mono GI.out.size)
    clear g8 GI HY8i HQ8i
    have s8j := g8j.size
    have HL8j : Hid (Loc [(w5.heap.size, .slice b5 V.length c5, 28), (w4.heap.size, .slice b4 zs.length c4, 28), (w3.heap.size, .slice b3 V.length c3, 28), (w.heap.size, .slice a zs.length cap, 24)] w8j) := HL8.out.below g8j
    have HB8j : Hid (Below w.heap.size w w8j) := HB8.out.trans (g8j.mono HB8.out.size)
    have HW8j : Hid (Own w2i.heap.size w3.heap.size b3 V w8j) := HW8.out.below g8j
    have HX8j : Hid (Own (w3.heap.size + 1) w4.heap.size b4 zs w8j) := HX8.out.below g8j
    have HY8j : Hid (OwnI (w4.heap.size + 1) w4i.heap.size bk ks w8j) := HY8.out.below g8j
    have HG8j : Hid (Own w4i.heap.size w5.heap.size b5 V w8j) := HG8.out.below g8j
    clear HL8 HB8 HW8 HX8 HY8 HG8 g8j
    have q8 := HL8j.out.cell w4.heap.size (.slice b4 zs.length c4) 28 (by simp)
    go_wp2_with fail
    refine (mark_own _ _ b4 c4 zs _ hn HX8j.out).mono ?_
    rintro e w9 ⟨rfl, o9, t9⟩
    have s9 := t9.size
    have HL9 : Hid (Loc [(w5.heap.size, .slice b5 V.length c5, 28), (w4.heap.size, .slice b4 zs.length c4, 28), (w3.heap.size, .slice b3 V.length c3, 28), (w.heap.size, .slice a zs.length cap, 24)] w9) := HL8j.out.out t9 (by
          intro x hx
          simp only [List.mem_cons, List.mem_nil_iff, or_false] at hx
          rcases hx with rfl | rfl | rfl | rfl <;> simp only <;> omega)
    have HB9 : Hid (Below w.heap.size w w9) := HB8j.out.trans (t9.below (by omega) HB8j.out.size)
    have HW9 : Hid (Own w2i.heap.size w3.heap.size b3 V w9) := HW8j.out.out t9 (by omega)
    have HY9 : Hid (OwnI (w4.heap.size + 1) w4i.heap.size bk ks w9) := HY8j.out.out t9 (by omega)
    have HG9 : Hid (Own w4i.heap.size w5.heap.size b5 V w9) := HG8j.out.out t9 (by omega)
    clear o9 t9 q8
    clear HL8j HB8j HW8j HX8j HY8j HG8j
    have hk0 : 1 ≤ 1 + 3 * zs.length := by omega
    have hk1 : 1 + 3 * zs.length ≤ 10000000 := by omega
    generalize 1 + 3 * zs.length = m9 at *
    go_wp2_with fail
    refine (mark_ownK _ _ bk ck m9 ks _ hks hk0 hk1 HY9.out).mono ?_
    rintro e w9i ⟨rfl, o9, t9⟩
    have s9i := t9.size
    have hm9 : decide (((m9 + ks.length : Nat) : Int) < 0) = false := by simp; omega
    have HL9i : Hid (Loc [(w5.heap.size, .slice b5 V.length c5, 28), (w4.heap.size, .slice b4 zs.length c4, 28), (w3.heap.size, .slice b3 V.length c3, 28), (w.heap.size, .slice a zs.length cap, 24)] w9i) := HL9.out.out t9 (by
          intro x hx
          simp only [List.mem_cons, List.mem_nil_iff, or_false] at hx
          rcases hx with rfl | rfl | rfl | rfl <;> simp only <;> omega)
    have HB9i : Hid (Below w.heap.size w w9i) := HB9.out.trans (t9.below (by omega) HB9.out.size)
    have HW9i : Hid (Own w2i.heap.size w3.heap.size b3 V w9i) := HW9.out.out t9 (by omega)
    have HG9i : Hid (Own w4i.heap.size w5.heap.size b5 V w9i) := HG9.out.out t9 (by omega)
    clear o9 t9
    clear HL9 HB9 HW9 HY9 HG9
    generalize m9 + ks.length = m9i at *
    have q9 := HL9i.out.cell w5.heap.size (.slice b5 V.length c5) 28 (by simp)
    have q6 := HL9i.out.cell w3.heap.size (.slice b3 V.length c3) 28 (by simp)
    go_wp2_with fail
    refine (eqDevice_same b5 b3 c5 c3 V _ hV HG9i.out.zs HW9i.out.zs).mono ?_
    rintro e w10 ⟨rfl, g10⟩
    have s10 := g10.size
    have HL10 : Hid (Loc [(w5.heap.size, .slice b5 V.length c5, 28), (w4.heap.size, .slice b4 zs.length c4, 28), (w3.heap.size, .slice b3 V.length c3, 28), (w.heap.size, .slice a zs.length cap, 24)] w10) := HL9i.out.below g10
    have HB10 : Hid (Below w.heap.size w w10) := HB9i.out.trans (g10.mono HB9i.out.size)
    have HW10 : Hid (Own w2i.heap.size w3.heap.size b3 V w10) := HW9i.out.below g10
    have HG10 : Hid (Own w4i.heap.size w5.heap.size b5 V w10) := HG9i.out.below g10
    clear HL9i HB9i HW9i HG9i g10 q9 q6
    have q9 := HL10.out.cell w5.heap.size (.slice b5 V.length c5) 28 (by simp)
    go_wp2_with fail
    refine (mark_own _ _ b5 c5 V _ hV HG10.out).mono ?_
    rintro e w11 ⟨rfl, o11, t11⟩
    have s11 := t11.size
    have HL11 : Hid (Loc [(w5.heap.size, .slice b5 V.length c5, 28), (w4.heap.size, .slice b4 zs.length c4, 28), (w3.heap.size, .slice b3 V.length c3, 28), (w.heap.size, .slice a zs.length cap, 24)] w11) := HL10.out.out t11 (by
          intro x hx
          simp only [List.mem_cons, List.mem_nil_iff, or_false] at hx
          rcases hx with rfl | rfl | rfl | rfl <;> simp only <;> omega)
    have HB11 : Hid (Below w.heap.size w w11) := HB10.out.trans (t11.below (by omega) HB10.out.size)
    have HW11 : Hid (Own w2i.heap.size w3.heap.size b3 V w11) := HW10.out.out t11 (by omega)
    have HG11 : Hid (Own w4i.heap.size w5.heap.size b5 (marks V.length 1) w11) := o11
    clear o11 t11 q9
    clear HL10 HB10 HW10 HG10
    have q9 := HL11.out.cell w5.heap.size (.slice b5 V.length c5) 28 (by simp)
    go_wp2_with fail
    refine (held_own _ _ b5 c5 V.length _ hV HG11.out).mono ?_
    rintro e w12 ⟨rfl, g12⟩
    have hm12 : decide (((1 + 3 * V.length : Nat) : Int) < 0) = false := by simp; omega
    have HL12 : Hid (Loc [(w5.heap.size, .slice b5 V.length c5, 28), (w4.heap.size, .slice b4 zs.length c4, 28), (w3.heap.size, .slice b3 V.length c3, 28), (w.heap.size, .slice a zs.length cap, 24)] w12) := HL11.out.below g12
    have HB12 : Hid (Below w.heap.size w w12) := HB11.out.trans (g12.mono HB11.out.size)
    have HW12 : Hid (Own w2i.heap.size w3.heap.size b3 V w12) := HW11.out.below g12
    have HG12 : Hid (Own w4i.heap.size w5.heap.size b5 (marks V.length 1) w12) := HG11.out.below g12
    clear HL11 HB11 HW11 HG11 g12 q9
    have q2 := HL12.out.cell w.heap.size (.slice a zs.length cap) 24 (by simp)
    go_wp2_with fail
    refine (to_own a cap zs _ hn (HZ.out _ HB12.out)).mono ?_
    rintro e w13 ⟨b13, c13, rfl, o13, g13⟩
    have HL13 : Hid (Loc [(w5.heap.size, .slice b5 V.length c5, 28), (w4.heap.size, .slice b4 zs.length c4, 28), (w3.heap.size, .slice b3 V.length c3, 28), (w.heap.size, .slice a zs.length cap, 24)] w13) := HL12.out.below g13
    have HB13 : Hid (Below w.heap.size w w13) := HB12.out.trans (g13.mono HB12.out.size)
    have HW13 : Hid (Own w2i.heap.size w3.heap.size b3 V w13) := HW12.out.below g13
    have HG13 : Hid (Own w4i.heap.size w5.heap.size b5 (marks V.length 1) w13) := HG12.out.below g13
    have HP13 : Hid (Own w12.heap.size w13.heap.size b13 zs w13) := o13
    clear HL12 HB12 HW12 HG12 g13 o13 q2
    go_wp2_with fail
    refine (toIntS_any ka kc ks _ hks (HI.out _ HB13.out)).mono ?_
    rintro e w13i ⟨bm, cm, rfl, oi, gi⟩
    have HL13i : Hid (Loc [(w5.heap.size, .slice b5 V.length c5, 28), (w4.heap.size, .slice b4 zs.length c4, 28), (w3.heap.size, .slice b3 V.length c3, 28), (w.heap.size, .slice a zs.length cap, 24)] w13i) := HL13.out.below gi
    have HB13i : Hid (Below w.heap.size w w13i) := HB13.out.trans (gi.mono HB13.out.size)
    have HW13i : Hid (Own w2i.heap.size w3.heap.size b3 V w13i) := HW13.out.below gi
    have HG13i : Hid (Own w4i.heap.size w5.heap.size b5 (marks V.length 1) w13i) := HG13.out.below gi
    have HP13i : Hid (Own w12.heap.size w13.heap.size b13 zs w13i) := HP13.out.below gi
    have HQ13i : Hid (OwnI w13.heap.size w13i.heap.size bm ks w13i) := oi
    clear HL13 HB13 HW13 HG13 HP13 gi oi
    go_wp2_with fail
    refine (H11.out b13 c13 bm cm _ HP13i.out.zs HQ13i.out.is).mono ?_
    rintro e w14 ⟨b14, c14, rfl, o14, g14⟩
    have HL14 : Hid (Loc [(w5.heap.size, .slice b5 V.length c5, 28), (w4.heap.size, .slice b4 zs.length c4, 28), (w3.heap.size, .slice b3 V.length c3, 28), (w.heap.size, .slice a zs.length cap, 24)] w14) := HL13i.out.below g14
    have HB14 : Hid (Below w.heap.size w w14) := HB13i.out.trans (g14.mono HB13i.out.size)
    have HW14 : Hid (Own w2i.heap.size w3.heap.size b3 V w14) := HW13i.out.below g14
    have HG14 : Hid (Own w4i.heap.size w5.heap.size b5 (marks V.length 1) w14) := HG13i.out.below g14
    have HL14a : Hid (Loc [(w14.heap.size, .slice b14 V.length c14, 28), (w5.heap.size, .slice b5 V.length c5, 28), (w4.heap.size, .slice b4 zs.length c4, 28), (w3.heap.size, .slice b3 V.length c3, 28), (w.heap.size, .slice a zs.length cap, 24)] (w14.alloc (.cells #[.slice b14 V.length c14] 28))) := HL14.out.alloc _ _
    have HB14a : Hid (Below w.heap.size w (w14.alloc (.cells #[.slice b14 V.length c14] 28))) := HB14.out.alloc HB14.out.size _
    have HW14a : Hid (Own w2i.heap.size w3.heap.size b3 V (w14.alloc (.cells #[.slice b14 V.length c14] 28))) := HW14.out.below ((Below.refl _ _).alloc (Nat.le_refl _) _)
    have HG14a : Hid (Own w4i.heap.size w5.heap.size b5 (marks V.length 1) (w14.alloc (.cells #[.slice b14 V.length c14] 28))) := HG14.out.below ((Below.refl _ _).alloc (Nat.le_refl _) _)
    have HK14a : Hid (Own w13i.heap.size w14.heap.size b14 V (w14.alloc (.cells #[.slice b14 V.length c14] 28))) := o14.below ((Below.refl _ _).alloc (Nat.le_refl _) _)
    clear HL13i HB13i HW13i HG13i HP13i HQ13i g14 o14
    clear HL14 HB14 HW14 HG14
    have q6 := HL14a.out.cell w3.heap.size (.slice b3 V.length c3) 28 (by simp)
    go_wp2_with fail
    refine (eqDevice_same b14 b3 c14 c3 V _ hV HK14a.out.zs HW14a.out.zs).mono ?_
    rintro e w15 ⟨rfl, g15⟩
    have HL15 : Hid (Loc [(w14.heap.size, .slice b14 V.length c14, 28), (w5.heap.size, .slice b5 V.length c5, 28), (w4.heap.size, .slice b4 zs.length c4, 28), (w3.heap.size, .slice b3 V.length c3, 28), (w.heap.size, .slice a zs.length cap, 24)] w15) := HL14a.out.below g15
    have HB15 : Hid (Below w.heap.size w w15) := HB14a.out.trans (g15.mono HB14a.out.size)
    have HG15 : Hid (Own w4i.heap.size w5.heap.size b5 (marks V.length 1) w15) := HG14a.out.below g15
    clear HL14a HB14a HW14a HG14a HK14a g15 q6
    have q9 := HL15.out.cell w5.heap.size (.slice b5 V.length c5) 28 (by simp)
    go_wp2_with fail
    refine (held_own _ _ b5 c5 V.length _ hV HG15.out).mono ?_
    rintro e w16 ⟨rfl, g16⟩
    have HB16 : Hid (Below w.heap.size w w16) := HB15.out.trans (g16.mono HB15.out.size)
    clear g16 HB15 HG15 HL15 q9
    go_wp2
    go_ret
    exact ⟨rfl, HB16.out⟩
end Go.Proofs.Ytbalahgfikeobas
