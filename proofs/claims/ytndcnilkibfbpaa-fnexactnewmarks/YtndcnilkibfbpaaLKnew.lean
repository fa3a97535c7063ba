/- The exact law of NewMarks: its walk out of the contracts of the model and of the program. -/
import Derived.Test.YtndcnilkibfbpaaKNew
import Derived.Test.YtndcnilkibfbpaaKOpen
import Derived.Deep.RegionHeld
namespace Go.Proofs.Ytndcnilkibfbpaa
set_option maxRecDepth 100000
open Go Go.ChangeShapes Go.WideShapes Go.ChangeAt Go.RowKit
theorem kbox {w : World} {X : Nat} {o : Obj} (h : w.heap[X]? = some o) : X < w.heap.size := by
  rcases Nat.lt_or_ge X w.heap.size with h' | h'
  · exact h'
  · rw [Array.getElem?_eq_none h'] at h; cases h
/-- function f answers the marks V and ok; they can be read -/
def SaysNewMarks (f : Nat)  (m : Int) (V : List Ly) (ok : Bool) : Prop := ∀ (v : World), 
  Calls Try.prog f #[.int .i64 m] v fun e w' => ∃ b c, e = .returned (.tuple #[.agg #[.slice b V.length c], .bool ok]) ∧ Ys w'.heap.size b V w' ∧ Below v.heap.size v w'
/-- function f answers the marks V and ok, in memory of their own -/
def OwnsNewMarks (f : Nat)  (m : Int) (V : List Ly) (ok : Bool) : Prop := ∀ (v : World), 
  Calls Try.prog f #[.int .i64 m] v fun e w' => ∃ b c, e = .returned (.tuple #[.agg #[.slice b V.length c], .bool ok]) ∧ OwnK v.heap.size w'.heap.size b V w' ∧ Below v.heap.size v w'
set_option maxHeartbeats 3000000 in
theorem law_NewMarks  (m : Int) (w : World) (H : ∃ (V : List Ly) (ok : Bool), FitK V ∧ SaysNewMarks 9 m V ok ∧ OwnsNewMarks 10 m V ok) :
    Calls Try.prog 3 #[.int .i64 m] w fun e w' => e = .returned (.bool true) ∧ Below w.heap.size w w' := by
  have HH : Hid (∃ (V : List Ly) (ok : Bool), FitK V ∧ SaysNewMarks 9 m V ok ∧ OwnsNewMarks 10 m V ok) := H
  obtain ⟨w0, hw0⟩ : ∃ w0, w0 = w := ⟨_, rfl⟩
  have HB0 : Hid (Below w.heap.size w w0) := by show Below w.heap.size w w0; rw [hw0]; exact Below.refl _ _
  subst hw0
  clear H
  have B_0 : Hid (Below w0.heap.size w0 w0) := Below.refl _ _
  go_enter Try.func3, Try.ntmps3
  obtain ⟨V, ok, hV, h9, h11⟩ := HH.out
  have H9 : Hid (SaysNewMarks 9 m V ok) := h9
  have H11 : Hid (OwnsNewMarks 10 m V ok) := h11
  have HV := hid hV
  clear h9 h11 hV HH
  have hbk : (ok != ok) = false := by cases ok <;> rfl
  have hbl : (ok == ok) = true := by cases ok <;> rfl
  go_wp2_with fail
  refine (H9.out _).mono ?_
  rintro e w1 ⟨bw, cw, rfl, oC, gC⟩
  have s1 := gC.size
  have B_1 : Hid (Below w0.heap.size w0 w1) := B_0.out.trans (gC.mono B_0.out.size)
  clear B_0
  have Wy_1 : Hid (Ys w1.heap.size bw V w1) := oC
  clear oC gC
  clear H9
  have gA := boxB w1 (.cells #[.slice bw V.length cw] 24)
  have hA : (w1.alloc (.cells #[.slice bw V.length cw] 24)).heap[w1.heap.size]? = some (.cells #[.slice bw V.length cw] 24) := heap_last _ _
  have zA : (w1.alloc (.cells #[.slice bw V.length cw] 24)).heap.size ≤ w1.heap.size + 1 := Nat.le_of_eq (heap_size _ _)
  have yA : w1.heap.size < (w1.alloc (.cells #[.slice bw V.length cw] 24)).heap.size := by simp
  generalize hW2 : w1.alloc (.cells #[.slice bw V.length cw] 24) = w2 at *
  have s2 := gA.size
  have B_2 : Hid (Below w0.heap.size w0 w2) := B_1.out.trans (gA.mono B_1.out.size)
  have Wy_2 : Hid (Ys w1.heap.size bw V w2) := Wy_1.out.below (gA.mono (by omega))
  clear B_1 Wy_1
  have Wk_2 : Hid (w2.heap[w1.heap.size]? = some (.cells #[.slice bw V.length cw] 24)) := hA
  have zz2 := zA
  have yy2 := yA
  clear gA hA zA yA
  go_wp2_with fail
  refine (H11.out _).mono ?_
  rintro e w3 ⟨bg, cg, rfl, oC, gC⟩
  have s3 := gC.size
  have B_3 : Hid (Below w0.heap.size w0 w3) := B_2.out.trans (gC.mono B_2.out.size)
  have Wy_3 : Hid (Ys w1.heap.size bw V w3) := Wy_2.out.below (gC.mono (by omega))
  have Wk_3 : Hid (w3.heap[w1.heap.size]? = some (.cells #[.slice bw V.length cw] 24)) := (gC.block _ (kbox Wk_2.out)).trans Wk_2.out
  clear B_2 Wy_2 Wk_2
  have Go_3 : Hid (OwnK w2.heap.size w3.heap.size bg V w3) := oC
  clear oC gC
  have gA := boxB w3 (.cells #[.slice bg V.length cg] 24)
  have hA : (w3.alloc (.cells #[.slice bg V.length cg] 24)).heap[w3.heap.size]? = some (.cells #[.slice bg V.length cg] 24) := heap_last _ _
  have zA : (w3.alloc (.cells #[.slice bg V.length cg] 24)).heap.size ≤ w3.heap.size + 1 := Nat.le_of_eq (heap_size _ _)
  have yA : w3.heap.size < (w3.alloc (.cells #[.slice bg V.length cg] 24)).heap.size := by simp
  generalize hW4 : w3.alloc (.cells #[.slice bg V.length cg] 24) = w4 at *
  have s4 := gA.size
  have B_4 : Hid (Below w0.heap.size w0 w4) := B_3.out.trans (gA.mono B_3.out.size)
  have Wy_4 : Hid (Ys w1.heap.size bw V w4) := Wy_3.out.below (gA.mono (by omega))
  have Wk_4 : Hid (w4.heap[w1.heap.size]? = some (.cells #[.slice bw V.length cw] 24)) := (gA.block _ (kbox Wk_3.out)).trans Wk_3.out
  have Go_4 : Hid (OwnK w2.heap.size w3.heap.size bg V w4) := Go_3.out.on gA
  clear B_3 Wy_3 Wk_3 Go_3
  have Gk_4 : Hid (w4.heap[w3.heap.size]? = some (.cells #[.slice bg V.length cg] 24)) := hA
  have zz4 := zA
  have yy4 := yA
  clear gA hA zA yA
  have y1 : w4.cell? ⟨w3.heap.size, 0, none⟩ = some (.slice bg V.length cg) := box_cell Gk_4.out 0
  have y2 : w4.cell? ⟨w1.heap.size, 0, none⟩ = some (.slice bw V.length cw) := box_cell Wk_4.out 0
  go_wp2_with fail
  refine (eqMarks_same bg bw cg cw V _ HV.out Go_4.out.ys (Wy_4.out.mono (by omega))).mono ?_
  rintro e w5 ⟨rfl, gE⟩
  clear y1 y2
  have s5 := gE.size
  have B_5 : Hid (Below w0.heap.size w0 w5) := B_4.out.trans (gE.mono B_4.out.size)
  have Wy_5 : Hid (Ys w1.heap.size bw V w5) := Wy_4.out.below (gE.mono (by omega))
  have Wk_5 : Hid (w5.heap[w1.heap.size]? = some (.cells #[.slice bw V.length cw] 24)) := (gE.block _ (kbox Wk_4.out)).trans Wk_4.out
  have Go_5 : Hid (OwnK w2.heap.size w3.heap.size bg V w5) := Go_4.out.on gE
  have Gk_5 : Hid (w5.heap[w3.heap.size]? = some (.cells #[.slice bg V.length cg] 24)) := (gE.block _ (kbox Gk_4.out)).trans Gk_4.out
  clear B_4 Wy_4 Wk_4 Go_4 Gk_4
  clear gE
  try clear hW0 hW1 hW2 hW3 hW4 hW5
  have y1 : w5.cell? ⟨w3.heap.size, 0, none⟩ = some (.slice bg V.length cg) := box_cell Gk_5.out 0
  go_wp2_with fail
  refine (markMarks_any _ _ bg cg V _ HV.out Go_5.out).mono ?_
  rintro e w6 ⟨rfl, oM, tM⟩
  clear y1
  have s6 := tM.size
  have B_6 : Hid (Below w0.heap.size w0 w6) := B_5.out.trans (tM.below (by omega) B_5.out.size)
  have Wy_6 : Hid (Ys w1.heap.size bw V w6) := Wy_5.out.below (tM.below (by omega) (by omega))
  have Wk_6 : Hid (w6.heap[w1.heap.size]? = some (.cells #[.slice bw V.length cw] 24)) := (tM.block _ (kbox Wk_5.out) (by have := kbox Wk_5.out; omega)).trans Wk_5.out
  have Go_6 : Hid (OwnK w2.heap.size w3.heap.size bg (kmarks V 1) w6) := oM
  have Gk_6 : Hid (w6.heap[w3.heap.size]? = some (.cells #[.slice bg V.length cg] 24)) := (tM.block _ (kbox Gk_5.out) (by have := kbox Gk_5.out; omega)).trans Gk_5.out
  clear B_5 Wy_5 Wk_5 Go_5 Gk_5
  clear oM tM
  have hm2 : decide (((1 + wtK V : Nat) : Int) < 0) = false := decide_eq_false (by omega)
  have y1 : w6.cell? ⟨w3.heap.size, 0, none⟩ = some (.slice bg V.length cg) := box_cell Gk_6.out 0
  go_wp2_with fail
  refine (heldMarks_any _ _ bg cg V _ HV.out Go_6.out).mono ?_
  rintro e w7 ⟨rfl, gH⟩
  clear y1
  have s7 := gH.size
  have B_7 : Hid (Below w0.heap.size w0 w7) := B_6.out.trans (gH.mono B_6.out.size)
  have Wy_7 : Hid (Ys w1.heap.size bw V w7) := Wy_6.out.below (gH.mono (by omega))
  have Wk_7 : Hid (w7.heap[w1.heap.size]? = some (.cells #[.slice bw V.length cw] 24)) := (gH.block _ (kbox Wk_6.out)).trans Wk_6.out
  have Go_7 : Hid (OwnK w2.heap.size w3.heap.size bg (kmarks V 1) w7) := Go_6.out.on gH
  have Gk_7 : Hid (w7.heap[w3.heap.size]? = some (.cells #[.slice bg V.length cg] 24)) := (gH.block _ (kbox Gk_6.out)).trans Gk_6.out
  clear B_6 Wy_6 Wk_6 Go_6 Gk_6
  clear gH
  go_wp2_with fail
  refine (H11.out _).mono ?_
  rintro e w8 ⟨bh, ch, rfl, oC, gC⟩
  have s8 := gC.size
  have B_8 : Hid (Below w0.heap.size w0 w8) := B_7.out.trans (gC.mono B_7.out.size)
  have Wy_8 : Hid (Ys w1.heap.size bw V w8) := Wy_7.out.below (gC.mono (by omega))
  have Wk_8 : Hid (w8.heap[w1.heap.size]? = some (.cells #[.slice bw V.length cw] 24)) := (gC.block _ (kbox Wk_7.out)).trans Wk_7.out
  have Go_8 : Hid (OwnK w2.heap.size w3.heap.size bg (kmarks V 1) w8) := Go_7.out.on gC
  have Gk_8 : Hid (w8.heap[w3.heap.size]? = some (.cells #[.slice bg V.length cg] 24)) := (gC.block _ (kbox Gk_7.out)).trans Gk_7.out
  clear B_7 Wy_7 Wk_7 Go_7 Gk_7
  have Ho_8 : Hid (OwnK w7.heap.size w8.heap.size bh V w8) := oC
  clear oC gC
  have gA := boxB w8 (.cells #[.slice bh V.length ch] 24)
  have hA : (w8.alloc (.cells #[.slice bh V.length ch] 24)).heap[w8.heap.size]? = some (.cells #[.slice bh V.length ch] 24) := heap_last _ _
  have zA : (w8.alloc (.cells #[.slice bh V.length ch] 24)).heap.size ≤ w8.heap.size + 1 := Nat.le_of_eq (heap_size _ _)
  have yA : w8.heap.size < (w8.alloc (.cells #[.slice bh V.length ch] 24)).heap.size := by simp
  generalize hW9 : w8.alloc (.cells #[.slice bh V.length ch] 24) = w9 at *
  have s9 := gA.size
  have B_9 : Hid (Below w0.heap.size w0 w9) := B_8.out.trans (gA.mono B_8.out.size)
  have Wy_9 : Hid (Ys w1.heap.size bw V w9) := Wy_8.out.below (gA.mono (by omega))
  have Wk_9 : Hid (w9.heap[w1.heap.size]? = some (.cells #[.slice bw V.length cw] 24)) := (gA.block _ (kbox Wk_8.out)).trans Wk_8.out
  have Go_9 : Hid (OwnK w2.heap.size w3.heap.size bg (kmarks V 1) w9) := Go_8.out.on gA
  have Gk_9 : Hid (w9.heap[w3.heap.size]? = some (.cells #[.slice bg V.length cg] 24)) := (gA.block _ (kbox Gk_8.out)).trans Gk_8.out
  have Ho_9 : Hid (OwnK w7.heap.size w8.heap.size bh V w9) := Ho_8.out.on gA
  clear B_8 Wy_8 Wk_8 Go_8 Gk_8 Ho_8
  have Hk_9 : Hid (w9.heap[w8.heap.size]? = some (.cells #[.slice bh V.length ch] 24)) := hA
  have zz9 := zA
  have yy9 := yA
  clear gA hA zA yA
  have y1 : w9.cell? ⟨w8.heap.size, 0, none⟩ = some (.slice bh V.length ch) := box_cell Hk_9.out 0
  have y2 : w9.cell? ⟨w1.heap.size, 0, none⟩ = some (.slice bw V.length cw) := box_cell Wk_9.out 0
  go_wp2_with fail
  refine (eqMarks_same bh bw ch cw V _ HV.out Ho_9.out.ys (Wy_9.out.mono (by omega))).mono ?_
  rintro e w10 ⟨rfl, gE⟩
  clear y1 y2
  have s10 := gE.size
  have B_10 : Hid (Below w0.heap.size w0 w10) := B_9.out.trans (gE.mono B_9.out.size)
  have Wy_10 : Hid (Ys w1.heap.size bw V w10) := Wy_9.out.below (gE.mono (by omega))
  have Wk_10 : Hid (w10.heap[w1.heap.size]? = some (.cells #[.slice bw V.length cw] 24)) := (gE.block _ (kbox Wk_9.out)).trans Wk_9.out
  have Go_10 : Hid (OwnK w2.heap.size w3.heap.size bg (kmarks V 1) w10) := Go_9.out.on gE
  have Gk_10 : Hid (w10.heap[w3.heap.size]? = some (.cells #[.slice bg V.length cg] 24)) := (gE.block _ (kbox Gk_9.out)).trans Gk_9.out
  have Ho_10 : Hid (OwnK w7.heap.size w8.heap.size bh V w10) := Ho_9.out.on gE
  have Hk_10 : Hid (w10.heap[w8.heap.size]? = some (.cells #[.slice bh V.length ch] 24)) := (gE.block _ (kbox Hk_9.out)).trans Hk_9.out
  clear B_9 Wy_9 Wk_9 Go_9 Gk_9 Ho_9 Hk_9
  clear gE
  have y1 : w10.cell? ⟨w3.heap.size, 0, none⟩ = some (.slice bg V.length cg) := box_cell Gk_10.out 0
  go_wp2_with fail
  refine (heldMarks_any _ _ bg cg V _ HV.out Go_10.out).mono ?_
  rintro e w11 ⟨rfl, gH⟩
  clear y1
  have s11 := gH.size
  have B_11 : Hid (Below w0.heap.size w0 w11) := B_10.out.trans (gH.mono B_10.out.size)
  have Wy_11 : Hid (Ys w1.heap.size bw V w11) := Wy_10.out.below (gH.mono (by omega))
  have Wk_11 : Hid (w11.heap[w1.heap.size]? = some (.cells #[.slice bw V.length cw] 24)) := (gH.block _ (kbox Wk_10.out)).trans Wk_10.out
  have Go_11 : Hid (OwnK w2.heap.size w3.heap.size bg (kmarks V 1) w11) := Go_10.out.on gH
  have Gk_11 : Hid (w11.heap[w3.heap.size]? = some (.cells #[.slice bg V.length cg] 24)) := (gH.block _ (kbox Gk_10.out)).trans Gk_10.out
  have Ho_11 : Hid (OwnK w7.heap.size w8.heap.size bh V w11) := Ho_10.out.on gH
  have Hk_11 : Hid (w11.heap[w8.heap.size]? = some (.cells #[.slice bh V.length ch] 24)) := (gH.block _ (kbox Hk_10.out)).trans Hk_10.out
  clear B_10 Wy_10 Wk_10 Go_10 Gk_10 Ho_10 Hk_10
  clear gH
  go_wp2_with fail
  go_ret
  exact ⟨rfl, HB0.out.trans (B_11.out.mono HB0.out.size)⟩
theorem walk_NewMarks (m : Int) (w : World) (_hm : fit m) : Calls Try.prog 3 #[.int .i64 m] w fun e w' => e = .returned (.bool true) ∧ Below w.heap.size w w' :=
  law_NewMarks m w ⟨(withK [] m).getD [], (withK [] m).isSome, withK_fit [] m (by decide), fun v => (snew_any m v).mono fun e w' h => h.says, fun v => (inew_any m v).mono fun e w' h => h.owns⟩
end Go.Proofs.Ytndcnilkibfbpaa
