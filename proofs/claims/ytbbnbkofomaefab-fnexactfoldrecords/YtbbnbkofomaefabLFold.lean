/- The exact law of FoldRecords: its walk. -/
import Derived.Test.YtbbnbkofomaefabFoldI
import Derived.Test.YtbbnbkofomaefabStrS
import Derived.Test.YtbbnbkofomaefabMarkR
namespace Go.Proofs.Ytbbnbkofomaefab
set_option maxRecDepth 100000
open Go.ChangeShapes Go.WideShapes Go.ChangeAt Go.RowKit G00541
/-- function f answers the texts V and ok of records l, in memory of its own -/
def TellsF (f : Nat) (l : List Rc) (V : List ByteArray) (ok : Bool) : Prop := ∀ (a : Option Addr) (cap : Nat) (w : World), Rs w.heap.size a l w →
  Calls Try.prog f #[.slice a l.length cap] w fun e w' => ∃ b c, e = .returned (.tuple #[.slice b V.length c, .bool ok]) ∧ OwnS w.heap.size w'.heap.size b V w' ∧ Below w.heap.size w w'
theorem to_ownR (a : Option Addr) (cap : Nat) (l : List Rc) (w : World) (hn : l.length ≤ 1048576) (hZ : Rs w.heap.size a l w) :
    Calls Try.prog 14 #[.slice a l.length cap] w fun e w' => ∃ b c, e = .returned (.slice b l.length c) ∧ OwnR w.heap.size w'.heap.size b l w' ∧ Below w.heap.size w w' :=
  (toRecordS_any a cap l w hn hZ).mono fun _ _ ⟨he, hrow, hb⟩ => ⟨_, _, he, Or.inr ⟨_, Nat.le_refl _, hrow.lt, rfl, hrow⟩, hb⟩
set_option maxHeartbeats 8000000 in
theorem law_FoldRecords (a : Option Addr) (cap : Nat) (l : List Rc) (w : World) (hz : ∀ r ∈ l, r.data.length ≤ 9223372036854775807) (hn0 : l.length ≤ 9223372036854775807) (hZ : Rs w.heap.size a l w)
    (H : l.length ≤ 1048576 → ∃ (V : List ByteArray) (ok : Bool), V.length ≤ 1048576 ∧ TellsF 13 l V ok ∧ TellsF 15 l V ok) :
    Calls Try.prog 4 #[.slice a l.length cap] w fun e w' => e = .returned (.bool true) ∧ Below w.heap.size w w' := by
  have HSZ : Hid (Calls Try.prog 12 #[.slice a l.length cap, .int .i64 1048576] w fun e w' => (∃ r : Int, e = .returned (.int .i64 r) ∧ (0 ≤ r → l.length ≤ 1048576 ∧ ∀ r ∈ l, r.data.length ≤ 1048576)) ∧ Below w.heap.size w w') := szRecordS_any a cap l w hz hn0 hZ
  have HZ : Hid (∀ v, Below w.heap.size w v → Rs v.heap.size a l v) := fun v g => (hZ.below g).mono g.size
  have HH : Hid (l.length ≤ 1048576 → ∃ (V : List ByteArray) (ok : Bool), V.length ≤ 1048576 ∧ TellsF 13 l V ok ∧ TellsF 15 l V ok) := H
  clear hZ hz hn0 H
  go_enter Try.func4, Try.ntmps4
  go_wp2_with fail
  refine (HSZ.out).mono ?_
  rintro e w1 ⟨⟨r, rfl, hr⟩, b1⟩
  have HB1 : Hid (Below w.heap.size w w1) := b1
  clear b1 HSZ
  by_cases r0 : 0 ≤ r
  case neg =>
    have hd1 : decide (r < 0) = true := by simp; omega
    clear hr
    go_wp2
    go_ret
    exact ⟨rfl, HB1.out⟩
  have hd1 : decide (r < 0) = false := by simp; omega
  obtain ⟨hn, _⟩ := hr r0
  obtain ⟨V, ok, hV, h9, h11⟩ := HH.out hn
  have H9 : Hid (TellsF 13 l V ok) := h9
  have H11 : Hid (TellsF 15 l V ok) := h11
  clear hr h9 h11 HH
  go_wp2_with fail
  refine (to_ownR a cap l _ hn (HZ.out _ HB1.out)).mono ?_
  rintro e w2 ⟨b2, c2, rfl, o2, g2⟩
  have HB2 : Hid (Below w.heap.size w w2) := HB1.out.trans (g2.mono HB1.out.size)
  have HO2 : Hid (OwnR w1.heap.size w2.heap.size b2 l w2) := o2
  clear g2 o2 HB1
  go_wp2_with fail
  refine (H9.out b2 c2 _ HO2.out.rs).mono ?_
  rintro e w3 ⟨b3, c3, rfl, o3, g3⟩
  have s3 := g3.size
  have s2 := HB2.out.size
  have HB3 : Hid (Below w.heap.size w w3) := HB2.out.trans (g3.mono HB2.out.size)
  have HW3 : Hid (OwnS w2.heap.size w3.heap.size b3 V w3) := o3
  clear g3 o3 HB2 HO2 H9
  go_wp2_with fail
  refine (to_ownR a cap l _ hn (HZ.out _ HB3.out)).mono ?_
  rintro e w4 ⟨b4, c4, rfl, o4, g4⟩
  have s4 := g4.size
  have HB4 : Hid (Below w.heap.size w w4) := HB3.out.trans (g4.mono HB3.out.size)
  have HW4 : Hid (OwnS w2.heap.size w3.heap.size b3 V w4) := HW3.out.below g4
  have HX4 : Hid (OwnR w3.heap.size w4.heap.size b4 l w4) := o4
  clear g4 o4 HB3 HW3
  go_wp2_with fail
  refine (H11.out b4 c4 _ HX4.out.rs).mono ?_
  rintro e w5 ⟨b5, c5, rfl, o5, g5⟩
  have s5 := g5.size
  have HB5 : Hid (Below w.heap.size w w5) := HB4.out.trans (g5.mono HB4.out.size)
  have HW5 : Hid (OwnS w2.heap.size w3.heap.size b3 V w5) := HW4.out.below g5
  have HX5 : Hid (OwnR w3.heap.size w4.heap.size b4 l w5) := HX4.out.below g5
  have HG5 : Hid (OwnS w4.heap.size w5.heap.size b5 V w5) := o5
  clear g5 o5 HB4 HW4 HX4
  go_wp2_with fail
  refine (eqStringS_same b5 b3 c5 c3 V _ hV HG5.out.ss HW5.out.ss).mono ?_
  rintro e w6 ⟨rfl, g6⟩
  have s6 := g6.size
  have HB6 : Hid (Below w.heap.size w w6) := HB5.out.trans (g6.mono HB5.out.size)
  have HW6 : Hid (OwnS w2.heap.size w3.heap.size b3 V w6) := HW5.out.below g6
  have HX6 : Hid (OwnR w3.heap.size w4.heap.size b4 l w6) := HX5.out.below g6
  have HG6 : Hid (OwnS w4.heap.size w5.heap.size b5 V w6) := HG5.out.below g6
  clear g6 HB5 HW5 HX5 HG5
  go_wp2_with fail
  refine (to_ownR a cap l _ hn (HZ.out _ HB6.out)).mono ?_
  rintro e w7 ⟨b7, c7, rfl, o7, g7⟩
  have s7 := g7.size
  have HB7 : Hid (Below w.heap.size w w7) := HB6.out.trans (g7.mono HB6.out.size)
  have HW7 : Hid (OwnS w2.heap.size w3.heap.size b3 V w7) := HW6.out.below g7
  have HX7 : Hid (OwnR w3.heap.size w4.heap.size b4 l w7) := HX6.out.below g7
  have HG7 : Hid (OwnS w4.heap.size w5.heap.size b5 V w7) := HG6.out.below g7
  have HY7 : Hid (OwnR w6.heap.size w7.heap.size b7 l w7) := o7
  clear g7 o7 HB6 HW6 HX6 HG6
  go_wp2_with fail
  refine (eqRecordS_same b4 b7 c4 c7 l _ hn HX7.out.rs HY7.out.rs).mono ?_
  rintro e w8 ⟨rfl, g8⟩
  have s8 := g8.size
  have HB8 : Hid (Below w.heap.size w w8) := HB7.out.trans (g8.mono HB7.out.size)
  have HW8 : Hid (OwnS w2.heap.size w3.heap.size b3 V w8) := HW7.out.below g8
  have HX8 : Hid (OwnR w3.heap.size w4.heap.size b4 l w8) := HX7.out.below g8
  have HG8 : Hid (OwnS w4.heap.size w5.heap.size b5 V w8) := HG7.out.below g8
  clear g8 HB7 HW7 HX7 HG7 HY7
  go_wp2_with fail
  refine (mark_ownR _ _ b4 c4 l _ hn HX8.out).mono ?_
  rintro e w9 ⟨rfl, o9, t9⟩
  have hm9 : decide (((1 + 4 * l.length : Nat) : Int) < 0) = false := by simp; omega
  have s9 := t9.size
  have HB9 : Hid (Below w.heap.size w w9) := HB8.out.trans (t9.below (by omega) HB8.out.size)
  have HW9 : Hid (OwnS w2.heap.size w3.heap.size b3 V w9) := HW8.out.out t9 (by omega)
  have HG9 : Hid (OwnS w4.heap.size w5.heap.size b5 V w9) := HG8.out.out t9 (by omega)
  clear o9 t9 HB8 HW8 HX8 HG8
  generalize 1 + 4 * l.length = m9 at *
  go_wp2_with fail
  refine (eqStringS_same b5 b3 c5 c3 V _ hV HG9.out.ss HW9.out.ss).mono ?_
  rintro e w10 ⟨rfl, g10⟩
  have s10 := g10.size
  have HB10 : Hid (Below w.heap.size w w10) := HB9.out.trans (g10.mono HB9.out.size)
  have HW10 : Hid (OwnS w2.heap.size w3.heap.size b3 V w10) := HW9.out.below g10
  have HG10 : Hid (OwnS w4.heap.size w5.heap.size b5 V w10) := HG9.out.below g10
  clear g10 HB9 HW9 HG9
  go_wp2_with fail
  refine (mark_ownS _ _ b5 c5 V _ hV HG10.out).mono ?_
  rintro e w11 ⟨rfl, o11, t11⟩
  have hm11 : decide (((1 + V.length : Nat) : Int) < 0) = false := by simp; omega
  have HB11 : Hid (Below w.heap.size w w11) := HB10.out.trans (t11.below (by omega) HB10.out.size)
  have HW11 : Hid (OwnS w2.heap.size w3.heap.size b3 V w11) := HW10.out.out t11 (by omega)
  have HG11 : Hid (OwnS w4.heap.size w5.heap.size b5 (smarks V.length 1) w11) := o11
  clear o11 t11 HB10 HW10 HG10
  go_wp2_with fail
  refine (held_ownS _ _ b5 c5 V.length _ hV HG11.out).mono ?_
  rintro e w12 ⟨rfl, g12⟩
  have HB12 : Hid (Below w.heap.size w w12) := HB11.out.trans (g12.mono HB11.out.size)
  have HW12 : Hid (OwnS w2.heap.size w3.heap.size b3 V w12) := HW11.out.below g12
  have HG12 : Hid (OwnS w4.heap.size w5.heap.size b5 (smarks V.length 1) w12) := HG11.out.below g12
  clear g12 HB11 HW11 HG11
  go_wp2_with fail
  refine (to_ownR a cap l _ hn (HZ.out _ HB12.out)).mono ?_
  rintro e w13 ⟨b13, c13, rfl, o13, g13⟩
  have HB13 : Hid (Below w.heap.size w w13) := HB12.out.trans (g13.mono HB12.out.size)
  have HW13 : Hid (OwnS w2.heap.size w3.heap.size b3 V w13) := HW12.out.below g13
  have HG13 : Hid (OwnS w4.heap.size w5.heap.size b5 (smarks V.length 1) w13) := HG12.out.below g13
  have HO13 : Hid (OwnR w12.heap.size w13.heap.size b13 l w13) := o13
  clear g13 o13 HB12 HW12 HG12
  go_wp2_with fail
  refine (H11.out b13 c13 _ HO13.out.rs).mono ?_
  rintro e w14 ⟨b14, c14, rfl, o14, g14⟩
  have HB14 : Hid (Below w.heap.size w w14) := HB13.out.trans (g14.mono HB13.out.size)
  have HW14 : Hid (OwnS w2.heap.size w3.heap.size b3 V w14) := HW13.out.below g14
  have HG14 : Hid (OwnS w4.heap.size w5.heap.size b5 (smarks V.length 1) w14) := HG13.out.below g14
  have HH14 : Hid (OwnS w13.heap.size w14.heap.size b14 V w14) := o14
  clear g14 o14 HB13 HW13 HG13 HO13
  go_wp2_with fail
  refine (eqStringS_same b14 b3 c14 c3 V _ hV HH14.out.ss HW14.out.ss).mono ?_
  rintro e w15 ⟨rfl, g15⟩
  have HB15 : Hid (Below w.heap.size w w15) := HB14.out.trans (g15.mono HB14.out.size)
  have HG15 : Hid (OwnS w4.heap.size w5.heap.size b5 (smarks V.length 1) w15) := HG14.out.below g15
  clear g15 HB14 HW14 HG14 HH14
  go_wp2_with fail
  refine (held_ownS _ _ b5 c5 V.length _ hV HG15.out).mono ?_
  rintro e w16 ⟨rfl, g16⟩
  have HB16 : Hid (Below w.heap.size w w16) := HB15.out.trans (g16.mono HB15.out.size)
  clear g16 HB15 HG15
  go_wp2
  go_ret
  exact ⟨rfl, HB16.out⟩
theorem tells_yes {f : Nat} {l : List Rc} (h : ∀ (a : Option Addr) (cap : Nat) (w : World), Rs w.heap.size a l w → Calls Try.prog f #[.slice a l.length cap] w fun e w' => ∃ R c, w.heap.size ≤ R ∧ e = .returned (.tuple #[.slice (some ⟨R, 0, none⟩) 16 c, .bool true]) ∧ SRow R (foldR l) w' ∧ Below w.heap.size w w') :
    TellsF f l (foldR l) true := fun a cap w hw => (h a cap w hw).mono fun _ _ ⟨R, c, hR, he, hrow, hb⟩ => ⟨some ⟨R, 0, none⟩, c, by rw [foldR_len]; exact he, Or.inr ⟨R, hR, hrow.lt, rfl, hrow⟩, hb⟩
theorem tells_no {f : Nat} {l : List Rc} (h : ∀ (a : Option Addr) (cap : Nat) (w : World), Rs w.heap.size a l w → Calls Try.prog f #[.slice a l.length cap] w fun e w' => e = .returned (.tuple #[.slice none 0 0, .bool false]) ∧ Below w.heap.size w w') :
    TellsF f l [] false := fun a cap w hw => (h a cap w hw).mono fun _ _ ⟨he, hb⟩ => ⟨none, 0, he, Or.inl rfl, hb⟩
theorem walk_FoldRecords (a : Option Addr) (cap : Nat) (l : List Rc) (w : World) (hz : ∀ r ∈ l, r.data.length ≤ 9223372036854775807) (hn0 : l.length ≤ 9223372036854775807) (hZ : Rs w.heap.size a l w) :
    Calls Try.prog 4 #[.slice a l.length cap] w fun e w' => e = .returned (.bool true) ∧ Below w.heap.size w w' := by
  refine law_FoldRecords a cap l w hz hn0 hZ fun hn => ?_
  cases h : foldOk l
  · refine ⟨[], false, by decide, tells_no fun a cap v hv => sfold_no a cap l v hn hv h, tells_no fun a cap v hv => ?_⟩
    by_cases h6 : l.length ≤ 60
    · refine (ifold_any a cap l v h6 hv).mono ?_
      rintro e w' ⟨⟨h', _⟩ | ⟨_, he⟩, hb⟩
      · rw [h] at h'; cases h'
      · exact ⟨he, hb⟩
    · exact ifold_long a cap l v hn (by omega)
  · have h6 : l.length ≤ 60 := by
      have h' := h
      unfold foldOk at h'
      rw [Bool.and_eq_true] at h'
      exact of_decide_eq_true h'.2
    refine ⟨foldR l, true, by rw [foldR_len]; decide, tells_yes fun a cap v hv => sfold_yes a cap l v hv h, tells_yes fun a cap v hv => ?_⟩
    refine (ifold_any a cap l v h6 hv).mono ?_
    rintro e w' ⟨⟨_, R, c, hR, he, hrow⟩ | ⟨h', _⟩, hb⟩
    · exact ⟨R, c, hR, he, hrow, hb⟩
    · rw [h] at h'; cases h'
end Go.Proofs.Ytbbnbkofomaefab
