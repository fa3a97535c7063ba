/- The exact law of WriteMark: its walk out of the contracts of the model and of the program. -/
import Derived.Test.YtddkfaoopejjiaaKSwr
import Derived.Test.YtddkfaoopejjiaaKWrI
import Derived.Test.YtddkfaoopejjiaaHA
import Derived.Test.YtddkfaoopejjiaaKNew
import Derived.Deep.RegionHeld
namespace Go.Proofs.Ytddkfaoopejjiaa
set_option maxRecDepth 100000
open Go Go.ChangeShapes Go.WideShapes Go.ChangeAt Go.RowKit
theorem kbox {w : World} {X : Nat} {o : Obj} (h : w.heap[X]? = some o) : X < w.heap.size := by
  rcases Nat.lt_or_ge X w.heap.size with h' | h'
  · exact h'
  · rw [Array.getElem?_eq_none h'] at h; cases h
/-- function f answers the marks V and ok; they can be read -/
def SaysWriteMark (f : Nat) (S : List Ly)  (b : Int) (s : ByteArray) (V : List Ly) (ok : Bool) : Prop := ∀ (a : Option Addr) (k : Nat) (v : World), Ys v.heap.size a S v → S.length ≤ k → 
  Calls Try.prog f #[.agg #[.slice a S.length k], .int .i64 b, .string s] v fun e w' => ∃ b c, e = .returned (.tuple #[.agg #[.slice b V.length c], .bool ok]) ∧ Ys w'.heap.size b V w' ∧ Below v.heap.size v w'
/-- function f answers the marks V and ok, in memory of their own -/
def OwnsWriteMark (f : Nat) (S : List Ly)  (b : Int) (s : ByteArray) (V : List Ly) (ok : Bool) : Prop := ∀ (a : Option Addr) (k : Nat) (v : World), Ys v.heap.size a S v → S.length ≤ k → 
  Calls Try.prog f #[.agg #[.slice a S.length k], .int .i64 b, .string s] v fun e w' => ∃ b c, e = .returned (.tuple #[.agg #[.slice b V.length c], .bool ok]) ∧ OwnK v.heap.size w'.heap.size b V w' ∧ Below v.heap.size v w'
set_option maxHeartbeats 16000000 in
theorem law_WriteMark (a : Option Addr) (k : Nat) (S : List Ly)  (b : Int) (s : ByteArray) (w : World) (hn : S.length ≤ 9223372036854775807) (hz : ∀ s ∈ S, cntY s) (hG : Ys w.heap.size a S w) (hst : s.size ≤ 9223372036854775807) (H : FitK S → s.size ≤ 1048576 → ∃ (V : List Ly) (ok : Bool), FitK V ∧ SaysWriteMark 7 S b s V ok ∧ OwnsWriteMark 9 S b s V ok) :
    Calls Try.prog 3 #[.agg #[.slice a S.length k], .int .i64 b, .string s] w fun e w' => e = .returned (.bool true) ∧ Below w.heap.size w w' := by
  have HH : Hid (FitK S → s.size ≤ 1048576 → ∃ (V : List Ly) (ok : Bool), FitK V ∧ SaysWriteMark 7 S b s V ok ∧ OwnsWriteMark 9 S b s V ok) := H
  obtain ⟨w0, hw0⟩ : ∃ w0, w0 = w.alloc (.cells #[.slice a S.length k] 24) := ⟨_, rfl⟩
  have HB0 : Hid (Below w.heap.size w w0) := by show Below w.heap.size w w0; rw [hw0]; exact boxB w _
  have ss0 : w.heap.size < w0.heap.size := by rw [hw0]; simp
  have HZ : Hid (∀ v, Below w0.heap.size w0 v → Ys v.heap.size a S v) := fun v g => by
    have g' := HB0.out.trans (g.mono HB0.out.size)
    exact (hG.below g').mono g'.size
  have HX : Hid (∀ v, Below w0.heap.size w0 v → v.cell? ⟨w.heap.size, 0, none⟩ = some (.slice a S.length k)) := fun v g => by
    rw [g.cell (p := ⟨w.heap.size, 0, none⟩) (show w.heap.size < w0.heap.size from ss0), hw0]; exact box_cell (heap_last _ _) 0
  have HSZ : Hid (∀ v, Below w0.heap.size w0 v → Calls Try.prog 6 #[.agg #[.slice a S.length k], .int .i64 1048576] v fun e w' => (∃ r : Int, e = .returned (.int .i64 r) ∧ (0 ≤ r → FitK S)) ∧ Below v.heap.size v w') := fun v g => szMarks_l a k S v hn hz (HZ.out v g)
  have HTO : Hid (FitK S → ∀ v, Below w0.heap.size w0 v → Calls Try.prog 8 #[.agg #[.slice a S.length k]] v fun e w' => ∃ b c, e = .returned (.agg #[.slice b S.length c]) ∧ OwnK v.heap.size w'.heap.size b S w' ∧ Below v.heap.size v w' ∧ S.length ≤ c) := fun f v g => toMarks_any a k S v f (HZ.out v g)
  have W0 : Hid (w0 = w.alloc (.cells #[.slice a S.length k] 24)) := hw0
  clear hG H hw0 hz hn
  have B_0 : Hid (Below w0.heap.size w0 w0) := Below.refl _ _
  by_cases hsl : s.size ≤ 1048576
  case neg =>
    have dl : decide ((1048576 : Int) < (s.size : Int)) = true := decide_eq_true (by omega)
    go_enter Try.func3, Try.ntmps3
    go_wp2_with fail
    rw [← W0.out]
    go_ret
    exact ⟨rfl, HB0.out.trans (B_0.out.mono HB0.out.size)⟩
  have dl : decide ((1048576 : Int) < (s.size : Int)) = false := decide_eq_false (by omega)
  have HSL := hid hsl
  clear hsl
  go_enter Try.func3, Try.ntmps3
  go_wp2_with fail
  rw [← W0.out]
  refine (HSZ.out _ B_0.out).mono ?_
  rintro e w1 ⟨⟨r, rfl, hr⟩, g1⟩
  have HR := hid hr
  clear hr HSZ
  have s1 := g1.size
  have B_1 : Hid (Below w0.heap.size w0 w1) := B_0.out.trans (g1.mono B_0.out.size)
  clear B_0
  clear g1
  by_cases p0 : 0 ≤ r
  case neg =>
    have hd0 : decide (r < 0) = true := decide_eq_true (by omega)
    clear HR
    go_wp2_with fail
    go_ret
    exact ⟨rfl, HB0.out.trans (B_1.out.mono HB0.out.size)⟩
  have hd0 : decide (r < 0) = false := decide_eq_false (by omega)
  have HF := hid (HR.out p0)
  have HT := hid (HTO.out HF.out)
  obtain ⟨V, ok, hV, h9, h11⟩ := HH.out HF.out HSL.out
  have H9 : Hid (SaysWriteMark 7 S b s V ok) := h9
  have H11 : Hid (OwnsWriteMark 9 S b s V ok) := h11
  have HV := hid hV
  clear h9 h11 hV HH HR HTO
  have hbk : (ok != ok) = false := by cases ok <;> rfl
  have hbl : (ok == ok) = true := by cases ok <;> rfl
  have x0 := HX.out _ B_1.out
  go_wp2_with fail
  refine (HT.out _ B_1.out).mono ?_
  rintro e w2 ⟨b2, c2, rfl, oT, gT, kT⟩
  clear x0
  have s2 := gT.size
  have B_2 : Hid (Below w0.heap.size w0 w2) := B_1.out.trans (gT.mono B_1.out.size)
  clear B_1
  have CT := hid (oT.ys)
  have KT := hid kT
  clear oT gT kT
  go_wp2_with fail
  refine (H9.out b2 c2 _ CT.out KT.out).mono ?_
  rintro e w3 ⟨bw, cw, rfl, oC, gC⟩
  have s3 := gC.size
  have B_3 : Hid (Below w0.heap.size w0 w3) := B_2.out.trans (gC.mono B_2.out.size)
  clear B_2
  have Wy_3 : Hid (Ys w3.heap.size bw V w3) := oC
  clear oC gC
  clear CT KT H9
  have gA := boxB w3 (.cells #[.slice bw V.length cw] 28)
  have hA : (w3.alloc (.cells #[.slice bw V.length cw] 28)).heap[w3.heap.size]? = some (.cells #[.slice bw V.length cw] 28) := heap_last _ _
  have zA : (w3.alloc (.cells #[.slice bw V.length cw] 28)).heap.size ≤ w3.heap.size + 1 := Nat.le_of_eq (heap_size _ _)
  have yA : w3.heap.size < (w3.alloc (.cells #[.slice bw V.length cw] 28)).heap.size := by simp
  generalize hW4 : w3.alloc (.cells #[.slice bw V.length cw] 28) = w4 at *
  have s4 := gA.size
  have B_4 : Hid (Below w0.heap.size w0 w4) := B_3.out.trans (gA.mono B_3.out.size)
  have Wy_4 : Hid (Ys w3.heap.size bw V w4) := Wy_3.out.below (gA.mono (by omega))
  clear B_3 Wy_3
  have Wk_4 : Hid (w4.heap[w3.heap.size]? = some (.cells #[.slice bw V.length cw] 28)) := hA
  have zz4 := zA
  have yy4 := yA
  clear gA hA zA yA
  have x0 := HX.out _ B_4.out
  go_wp2_with fail
  refine (HT.out _ B_4.out).mono ?_
  rintro e w5 ⟨b4, c4, rfl, oT, gT, kT⟩
  clear x0
  have s5 := gT.size
  have B_5 : Hid (Below w0.heap.size w0 w5) := B_4.out.trans (gT.mono B_4.out.size)
  have Wy_5 : Hid (Ys w3.heap.size bw V w5) := Wy_4.out.below (gT.mono (by omega))
  have Wk_5 : Hid (w5.heap[w3.heap.size]? = some (.cells #[.slice bw V.length cw] 28)) := (gT.block _ (kbox Wk_4.out)).trans Wk_4.out
  clear B_4 Wy_4 Wk_4
  have Xo_5 : Hid (OwnK w4.heap.size w5.heap.size b4 S w5) := oT
  have KT := hid kT
  clear oT gT kT
  have gA := boxB w5 (.cells #[.slice b4 S.length c4] 28)
  have hA : (w5.alloc (.cells #[.slice b4 S.length c4] 28)).heap[w5.heap.size]? = some (.cells #[.slice b4 S.length c4] 28) := heap_last _ _
  have zA : (w5.alloc (.cells #[.slice b4 S.length c4] 28)).heap.size ≤ w5.heap.size + 1 := Nat.le_of_eq (heap_size _ _)
  have yA : w5.heap.size < (w5.alloc (.cells #[.slice b4 S.length c4] 28)).heap.size := by simp
  generalize hW6 : w5.alloc (.cells #[.slice b4 S.length c4] 28) = w6 at *
  have s6 := gA.size
  have B_6 : Hid (Below w0.heap.size w0 w6) := B_5.out.trans (gA.mono B_5.out.size)
  have Wy_6 : Hid (Ys w3.heap.size bw V w6) := Wy_5.out.below (gA.mono (by omega))
  have Wk_6 : Hid (w6.heap[w3.heap.size]? = some (.cells #[.slice bw V.length cw] 28)) := (gA.block _ (kbox Wk_5.out)).trans Wk_5.out
  have Xo_6 : Hid (OwnK w4.heap.size w5.heap.size b4 S w6) := Xo_5.out.on gA
  clear B_5 Wy_5 Wk_5 Xo_5
  have Xk_6 : Hid (w6.heap[w5.heap.size]? = some (.cells #[.slice b4 S.length c4] 28)) := hA
  have zz6 := zA
  have yy6 := yA
  clear gA hA zA yA
  have x1 : w6.cell? ⟨w5.heap.size, 0, none⟩ = some (.slice b4 S.length c4) := box_cell Xk_6.out 0
  go_wp2_with fail
  refine (H11.out b4 c4 _ Xo_6.out.ys KT.out).mono ?_
  rintro e w7 ⟨bg, cg, rfl, oC, gC⟩
  have s7 := gC.size
  have B_7 : Hid (Below w0.heap.size w0 w7) := B_6.out.trans (gC.mono B_6.out.size)
  have Wy_7 : Hid (Ys w3.heap.size bw V w7) := Wy_6.out.below (gC.mono (by omega))
  have Wk_7 : Hid (w7.heap[w3.heap.size]? = some (.cells #[.slice bw V.length cw] 28)) := (gC.block _ (kbox Wk_6.out)).trans Wk_6.out
  have Xo_7 : Hid (OwnK w4.heap.size w5.heap.size b4 S w7) := Xo_6.out.on gC
  have Xk_7 : Hid (w7.heap[w5.heap.size]? = some (.cells #[.slice b4 S.length c4] 28)) := (gC.block _ (kbox Xk_6.out)).trans Xk_6.out
  clear B_6 Wy_6 Wk_6 Xo_6 Xk_6
  have Go_7 : Hid (OwnK w6.heap.size w7.heap.size bg V w7) := oC
  clear oC gC
  clear x1
  have gA := boxB w7 (.cells #[.slice bg V.length cg] 28)
  have hA : (w7.alloc (.cells #[.slice bg V.length cg] 28)).heap[w7.heap.size]? = some (.cells #[.slice bg V.length cg] 28) := heap_last _ _
  have zA : (w7.alloc (.cells #[.slice bg V.length cg] 28)).heap.size ≤ w7.heap.size + 1 := Nat.le_of_eq (heap_size _ _)
  have yA : w7.heap.size < (w7.alloc (.cells #[.slice bg V.length cg] 28)).heap.size := by simp
  generalize hW8 : w7.alloc (.cells #[.slice bg V.length cg] 28) = w8 at *
  have s8 := gA.size
  have B_8 : Hid (Below w0.heap.size w0 w8) := B_7.out.trans (gA.mono B_7.out.size)
  have Wy_8 : Hid (Ys w3.heap.size bw V w8) := Wy_7.out.below (gA.mono (by omega))
  have Wk_8 : Hid (w8.heap[w3.heap.size]? = some (.cells #[.slice bw V.length cw] 28)) := (gA.block _ (kbox Wk_7.out)).trans Wk_7.out
  have Xo_8 : Hid (OwnK w4.heap.size w5.heap.size b4 S w8) := Xo_7.out.on gA
  have Xk_8 : Hid (w8.heap[w5.heap.size]? = some (.cells #[.slice b4 S.length c4] 28)) := (gA.block _ (kbox Xk_7.out)).trans Xk_7.out
  have Go_8 : Hid (OwnK w6.heap.size w7.heap.size bg V w8) := Go_7.out.on gA
  clear B_7 Wy_7 Wk_7 Xo_7 Xk_7 Go_7
  have Gk_8 : Hid (w8.heap[w7.heap.size]? = some (.cells #[.slice bg V.length cg] 28)) := hA
  have zz8 := zA
  have yy8 := yA
  clear gA hA zA yA
  have y1 : w8.cell? ⟨w7.heap.size, 0, none⟩ = some (.slice bg V.length cg) := box_cell Gk_8.out 0
  have y2 : w8.cell? ⟨w3.heap.size, 0, none⟩ = some (.slice bw V.length cw) := box_cell Wk_8.out 0
  go_wp2_with fail
  refine (eqMarks_same bg bw cg cw V _ HV.out Go_8.out.ys (Wy_8.out.mono (by omega))).mono ?_
  rintro e w9 ⟨rfl, gE⟩
  clear y1 y2
  have s9 := gE.size
  have B_9 : Hid (Below w0.heap.size w0 w9) := B_8.out.trans (gE.mono B_8.out.size)
  have Wy_9 : Hid (Ys w3.heap.size bw V w9) := Wy_8.out.below (gE.mono (by omega))
  have Wk_9 : Hid (w9.heap[w3.heap.size]? = some (.cells #[.slice bw V.length cw] 28)) := (gE.block _ (kbox Wk_8.out)).trans Wk_8.out
  have Xo_9 : Hid (OwnK w4.heap.size w5.heap.size b4 S w9) := Xo_8.out.on gE
  have Xk_9 : Hid (w9.heap[w5.heap.size]? = some (.cells #[.slice b4 S.length c4] 28)) := (gE.block _ (kbox Xk_8.out)).trans Xk_8.out
  have Go_9 : Hid (OwnK w6.heap.size w7.heap.size bg V w9) := Go_8.out.on gE
  have Gk_9 : Hid (w9.heap[w7.heap.size]? = some (.cells #[.slice bg V.length cg] 28)) := (gE.block _ (kbox Gk_8.out)).trans Gk_8.out
  clear B_8 Wy_8 Wk_8 Xo_8 Xk_8 Go_8 Gk_8
  clear gE
  try clear hW0 hW1 hW2 hW3 hW4 hW5 hW6 hW7 hW8 hW9
  have Bd : Hid (Below w0.heap.size w0 w9.drew) := B_9.out.drew
  have x0 := HX.out _ Bd.out
  have y0 : w9.cell? ⟨w5.heap.size, 0, none⟩ = some (.slice b4 S.length c4) := box_cell Xk_9.out 0
  have y0d : w9.drew.cell? ⟨w5.heap.size, 0, none⟩ = some (.slice b4 S.length c4) := y0
  have HCd := hid (HT.out _ Bd.out)
  have hsX : w5.heap.size < w9.heap.size := kbox Xk_9.out
  have HEQ : Hid (∀ v (b : Option Addr) (c : Nat), Below w9.heap.size w9 v → Ys v.heap.size b S v → Calls Try.prog 10 #[.agg #[.slice b4 S.length c4], .agg #[.slice b S.length c]] v fun e w' => e = .returned (.bool true) ∧ Below v.heap.size v w') := fun v b c g h1 => eqMarks_same b4 b c4 c S v HF.out (Xo_9.out.on g).ys h1
  go_wp2_with fail
  go_region_held (fun v => v.cell? ⟨w5.heap.size, 0, none⟩ = some (.slice b4 S.length c4) ∧ v.cell? ⟨w.heap.size, 0, none⟩ = some (.slice a S.length k)) (first | exact ⟨by assumption, by assumption⟩) (first | (go_at_call 8; refine HCd.out.mono ?_; rintro e wa ⟨b7, c7, rfl, o7, g7, -⟩; have s7 := g7.size; have z0 := (g7.cell (p := ⟨w5.heap.size, 0, none⟩) hsX).trans y0; have Ba : Hid (Below w0.heap.size w0 wa) := Bd.out.trans (g7.mono Bd.out.size); have z4 := HX.out _ Ba.out) | (go_at_call 10; refine (HEQ.out wa _ _ ⟨g7.os, g7.tape, g7.output, g7.size, g7.block⟩ o7.ys).mono ?_; rintro e w10 ⟨rfl, g8⟩; have t0 := (g8.cell (p := ⟨w5.heap.size, 0, none⟩) (show w5.heap.size < wa.heap.size from Nat.lt_of_lt_of_le hsX s7)).trans z0; have Bb : Hid (Below w0.heap.size w0 w10) := Ba.out.trans (g8.mono Ba.out.size); have t4 := HX.out _ Bb.out))
  all_goals
    have gR : Below w9.heap.size w9 w10 := (show Below w9.heap.size w9 wa from ⟨g7.os, g7.tape, g7.output, g7.size, g7.block⟩).trans (g8.mono s7)
    clear x0 y0 y0d z0 z4 t0 t4 o7 g7 g8 HCd HEQ Bd Ba Bb s7 hsX
    have s10 := gR.size
    have B_10 : Hid (Below w0.heap.size w0 w10) := B_9.out.trans (gR.mono B_9.out.size)
    have Wy_10 : Hid (Ys w3.heap.size bw V w10) := Wy_9.out.below (gR.mono (by omega))
    have Wk_10 : Hid (w10.heap[w3.heap.size]? = some (.cells #[.slice bw V.length cw] 28)) := (gR.block _ (kbox Wk_9.out)).trans Wk_9.out
    have Xo_10 : Hid (OwnK w4.heap.size w5.heap.size b4 S w10) := Xo_9.out.on gR
    have Xk_10 : Hid (w10.heap[w5.heap.size]? = some (.cells #[.slice b4 S.length c4] 28)) := (gR.block _ (kbox Xk_9.out)).trans Xk_9.out
    have Go_10 : Hid (OwnK w6.heap.size w7.heap.size bg V w10) := Go_9.out.on gR
    have Gk_10 : Hid (w10.heap[w7.heap.size]? = some (.cells #[.slice bg V.length cg] 28)) := (gR.block _ (kbox Gk_9.out)).trans Gk_9.out
    clear B_9 Wy_9 Wk_9 Xo_9 Xk_9 Go_9 Gk_9
    clear gR
    have y1 : w10.cell? ⟨w5.heap.size, 0, none⟩ = some (.slice b4 S.length c4) := box_cell Xk_10.out 0
    go_wp2_with fail
    refine (markMarks_any _ _ b4 c4 S _ HF.out Xo_10.out).mono ?_
    rintro e w11 ⟨rfl, oM, tM⟩
    clear y1
    have hm1 : decide (((1 + wtK S : Nat) : Int) < 0) = false := decide_eq_false (by omega)
    have s11 := tM.size
    have B_11 : Hid (Below w0.heap.size w0 w11) := B_10.out.trans (tM.below (by omega) B_10.out.size)
    have Wy_11 : Hid (Ys w3.heap.size bw V w11) := Wy_10.out.below (tM.below (by omega) (by omega))
    have Wk_11 : Hid (w11.heap[w3.heap.size]? = some (.cells #[.slice bw V.length cw] 28)) := (tM.block _ (kbox Wk_10.out) (by have := kbox Wk_10.out; omega)).trans Wk_10.out
    have Xo_11 : Hid (OwnK w4.heap.size w5.heap.size b4 (kmarks S 1) w11) := oM
    have Xk_11 : Hid (w11.heap[w5.heap.size]? = some (.cells #[.slice b4 S.length c4] 28)) := (tM.block _ (kbox Xk_10.out) (by have := kbox Xk_10.out; omega)).trans Xk_10.out
    have Go_11 : Hid (OwnK w6.heap.size w7.heap.size bg V w11) := Go_10.out.out tM (by omega)
    have Gk_11 : Hid (w11.heap[w7.heap.size]? = some (.cells #[.slice bg V.length cg] 28)) := (tM.block _ (kbox Gk_10.out) (by have := kbox Gk_10.out; omega)).trans Gk_10.out
    clear B_10 Wy_10 Wk_10 Xo_10 Xk_10 Go_10 Gk_10
    clear oM tM
    generalize 1 + wtK S = m1 at *
    have y1 : w11.cell? ⟨w7.heap.size, 0, none⟩ = some (.slice bg V.length cg) := box_cell Gk_11.out 0
    have y2 : w11.cell? ⟨w3.heap.size, 0, none⟩ = some (.slice bw V.length cw) := box_cell Wk_11.out 0
    go_wp2_with fail
    refine (eqMarks_same bg bw cg cw V _ HV.out Go_11.out.ys (Wy_11.out.mono (by omega))).mono ?_
    rintro e w12 ⟨rfl, gE⟩
    clear y1 y2
    have s12 := gE.size
    have B_12 : Hid (Below w0.heap.size w0 w12) := B_11.out.trans (gE.mono B_11.out.size)
    have Wy_12 : Hid (Ys w3.heap.size bw V w12) := Wy_11.out.below (gE.mono (by omega))
    have Wk_12 : Hid (w12.heap[w3.heap.size]? = some (.cells #[.slice bw V.length cw] 28)) := (gE.block _ (kbox Wk_11.out)).trans Wk_11.out
    have Xo_12 : Hid (OwnK w4.heap.size w5.heap.size b4 (kmarks S 1) w12) := Xo_11.out.on gE
    have Xk_12 : Hid (w12.heap[w5.heap.size]? = some (.cells #[.slice b4 S.length c4] 28)) := (gE.block _ (kbox Xk_11.out)).trans Xk_11.out
    have Go_12 : Hid (OwnK w6.heap.size w7.heap.size bg V w12) := Go_11.out.on gE
    have Gk_12 : Hid (w12.heap[w7.heap.size]? = some (.cells #[.slice bg V.length cg] 28)) := (gE.block _ (kbox Gk_11.out)).trans Gk_11.out
    clear B_11 Wy_11 Wk_11 Xo_11 Xk_11 Go_11 Gk_11
    clear gE
    have y1 : w12.cell? ⟨w7.heap.size, 0, none⟩ = some (.slice bg V.length cg) := box_cell Gk_12.out 0
    go_wp2_with fail
    refine (markMarks_any _ _ bg cg V _ HV.out Go_12.out).mono ?_
    rintro e w13 ⟨rfl, oM, tM⟩
    clear y1
    have s13 := tM.size
    have B_13 : Hid (Below w0.heap.size w0 w13) := B_12.out.trans (tM.below (by omega) B_12.out.size)
    have Wy_13 : Hid (Ys w3.heap.size bw V w13) := Wy_12.out.below (tM.below (by omega) (by omega))
    have Wk_13 : Hid (w13.heap[w3.heap.size]? = some (.cells #[.slice bw V.length cw] 28)) := (tM.block _ (kbox Wk_12.out) (by have := kbox Wk_12.out; omega)).trans Wk_12.out
    have Go_13 : Hid (OwnK w6.heap.size w7.heap.size bg (kmarks V 1) w13) := oM
    have Gk_13 : Hid (w13.heap[w7.heap.size]? = some (.cells #[.slice bg V.length cg] 28)) := (tM.block _ (kbox Gk_12.out) (by have := kbox Gk_12.out; omega)).trans Gk_12.out
    clear B_12 Wy_12 Wk_12 Go_12 Gk_12
    clear oM tM
    have hm2 : decide (((1 + wtK V : Nat) : Int) < 0) = false := decide_eq_false (by omega)
    have y1 : w13.cell? ⟨w7.heap.size, 0, none⟩ = some (.slice bg V.length cg) := box_cell Gk_13.out 0
    go_wp2_with fail
    refine (heldMarks_any _ _ bg cg V _ HV.out Go_13.out).mono ?_
    rintro e w14 ⟨rfl, gH⟩
    clear y1
    have s14 := gH.size
    have B_14 : Hid (Below w0.heap.size w0 w14) := B_13.out.trans (gH.mono B_13.out.size)
    have Wy_14 : Hid (Ys w3.heap.size bw V w14) := Wy_13.out.below (gH.mono (by omega))
    have Wk_14 : Hid (w14.heap[w3.heap.size]? = some (.cells #[.slice bw V.length cw] 28)) := (gH.block _ (kbox Wk_13.out)).trans Wk_13.out
    have Go_14 : Hid (OwnK w6.heap.size w7.heap.size bg (kmarks V 1) w14) := Go_13.out.on gH
    have Gk_14 : Hid (w14.heap[w7.heap.size]? = some (.cells #[.slice bg V.length cg] 28)) := (gH.block _ (kbox Gk_13.out)).trans Gk_13.out
    clear B_13 Wy_13 Wk_13 Go_13 Gk_13
    clear gH
    have x0 := HX.out _ B_14.out
    go_wp2_with fail
    refine (HT.out _ B_14.out).mono ?_
    rintro e w15 ⟨b5, c5, rfl, oT, gT, kT⟩
    clear x0
    have s15 := gT.size
    have B_15 : Hid (Below w0.heap.size w0 w15) := B_14.out.trans (gT.mono B_14.out.size)
    have Wy_15 : Hid (Ys w3.heap.size bw V w15) := Wy_14.out.below (gT.mono (by omega))
    have Wk_15 : Hid (w15.heap[w3.heap.size]? = some (.cells #[.slice bw V.length cw] 28)) := (gT.block _ (kbox Wk_14.out)).trans Wk_14.out
    have Go_15 : Hid (OwnK w6.heap.size w7.heap.size bg (kmarks V 1) w15) := Go_14.out.on gT
    have Gk_15 : Hid (w15.heap[w7.heap.size]? = some (.cells #[.slice bg V.length cg] 28)) := (gT.block _ (kbox Gk_14.out)).trans Gk_14.out
    clear B_14 Wy_14 Wk_14 Go_14 Gk_14
    have CT := hid (oT.ys)
    have KT := hid kT
    clear oT gT kT
    go_wp2_with fail
    refine (H11.out b5 c5 _ CT.out KT.out).mono ?_
    rintro e w16 ⟨bh, ch, rfl, oC, gC⟩
    have s16 := gC.size
    have B_16 : Hid (Below w0.heap.size w0 w16) := B_15.out.trans (gC.mono B_15.out.size)
    have Wy_16 : Hid (Ys w3.heap.size bw V w16) := Wy_15.out.below (gC.mono (by omega))
    have Wk_16 : Hid (w16.heap[w3.heap.size]? = some (.cells #[.slice bw V.length cw] 28)) := (gC.block _ (kbox Wk_15.out)).trans Wk_15.out
    have Go_16 : Hid (OwnK w6.heap.size w7.heap.size bg (kmarks V 1) w16) := Go_15.out.on gC
    have Gk_16 : Hid (w16.heap[w7.heap.size]? = some (.cells #[.slice bg V.length cg] 28)) := (gC.block _ (kbox Gk_15.out)).trans Gk_15.out
    clear B_15 Wy_15 Wk_15 Go_15 Gk_15
    have Ho_16 : Hid (OwnK w15.heap.size w16.heap.size bh V w16) := oC
    clear oC gC
    clear CT KT
    have gA := boxB w16 (.cells #[.slice bh V.length ch] 28)
    have hA : (w16.alloc (.cells #[.slice bh V.length ch] 28)).heap[w16.heap.size]? = some (.cells #[.slice bh V.length ch] 28) := heap_last _ _
    have zA : (w16.alloc (.cells #[.slice bh V.length ch] 28)).heap.size ≤ w16.heap.size + 1 := Nat.le_of_eq (heap_size _ _)
    have yA : w16.heap.size < (w16.alloc (.cells #[.slice bh V.length ch] 28)).heap.size := by simp
    generalize hW17 : w16.alloc (.cells #[.slice bh V.length ch] 28) = w17 at *
    have s17 := gA.size
    have B_17 : Hid (Below w0.heap.size w0 w17) := B_16.out.trans (gA.mono B_16.out.size)
    have Wy_17 : Hid (Ys w3.heap.size bw V w17) := Wy_16.out.below (gA.mono (by omega))
    have Wk_17 : Hid (w17.heap[w3.heap.size]? = some (.cells #[.slice bw V.length cw] 28)) := (gA.block _ (kbox Wk_16.out)).trans Wk_16.out
    have Go_17 : Hid (OwnK w6.heap.size w7.heap.size bg (kmarks V 1) w17) := Go_16.out.on gA
    have Gk_17 : Hid (w17.heap[w7.heap.size]? = some (.cells #[.slice bg V.length cg] 28)) := (gA.block _ (kbox Gk_16.out)).trans Gk_16.out
    have Ho_17 : Hid (OwnK w15.heap.size w16.heap.size bh V w17) := Ho_16.out.on gA
    clear B_16 Wy_16 Wk_16 Go_16 Gk_16 Ho_16
    have Hk_17 : Hid (w17.heap[w16.heap.size]? = some (.cells #[.slice bh V.length ch] 28)) := hA
    have zz17 := zA
    have yy17 := yA
    clear gA hA zA yA
    have y1 : w17.cell? ⟨w16.heap.size, 0, none⟩ = some (.slice bh V.length ch) := box_cell Hk_17.out 0
    have y2 : w17.cell? ⟨w3.heap.size, 0, none⟩ = some (.slice bw V.length cw) := box_cell Wk_17.out 0
    go_wp2_with fail
    refine (eqMarks_same bh bw ch cw V _ HV.out Ho_17.out.ys (Wy_17.out.mono (by omega))).mono ?_
    rintro e w18 ⟨rfl, gE⟩
    clear y1 y2
    have s18 := gE.size
    have B_18 : Hid (Below w0.heap.size w0 w18) := B_17.out.trans (gE.mono B_17.out.size)
    have Wy_18 : Hid (Ys w3.heap.size bw V w18) := Wy_17.out.below (gE.mono (by omega))
    have Wk_18 : Hid (w18.heap[w3.heap.size]? = some (.cells #[.slice bw V.length cw] 28)) := (gE.block _ (kbox Wk_17.out)).trans Wk_17.out
    have Go_18 : Hid (OwnK w6.heap.size w7.heap.size bg (kmarks V 1) w18) := Go_17.out.on gE
    have Gk_18 : Hid (w18.heap[w7.heap.size]? = some (.cells #[.slice bg V.length cg] 28)) := (gE.block _ (kbox Gk_17.out)).trans Gk_17.out
    have Ho_18 : Hid (OwnK w15.heap.size w16.heap.size bh V w18) := Ho_17.out.on gE
    have Hk_18 : Hid (w18.heap[w16.heap.size]? = some (.cells #[.slice bh V.length ch] 28)) := (gE.block _ (kbox Hk_17.out)).trans Hk_17.out
    clear B_17 Wy_17 Wk_17 Go_17 Gk_17 Ho_17 Hk_17
    clear gE
    have y1 : w18.cell? ⟨w7.heap.size, 0, none⟩ = some (.slice bg V.length cg) := box_cell Gk_18.out 0
    go_wp2_with fail
    refine (heldMarks_any _ _ bg cg V _ HV.out Go_18.out).mono ?_
    rintro e w19 ⟨rfl, gH⟩
    clear y1
    have s19 := gH.size
    have B_19 : Hid (Below w0.heap.size w0 w19) := B_18.out.trans (gH.mono B_18.out.size)
    have Wy_19 : Hid (Ys w3.heap.size bw V w19) := Wy_18.out.below (gH.mono (by omega))
    have Wk_19 : Hid (w19.heap[w3.heap.size]? = some (.cells #[.slice bw V.length cw] 28)) := (gH.block _ (kbox Wk_18.out)).trans Wk_18.out
    have Go_19 : Hid (OwnK w6.heap.size w7.heap.size bg (kmarks V 1) w19) := Go_18.out.on gH
    have Gk_19 : Hid (w19.heap[w7.heap.size]? = some (.cells #[.slice bg V.length cg] 28)) := (gH.block _ (kbox Gk_18.out)).trans Gk_18.out
    have Ho_19 : Hid (OwnK w15.heap.size w16.heap.size bh V w19) := Ho_18.out.on gH
    have Hk_19 : Hid (w19.heap[w16.heap.size]? = some (.cells #[.slice bh V.length ch] 28)) := (gH.block _ (kbox Hk_18.out)).trans Hk_18.out
    clear B_18 Wy_18 Wk_18 Go_18 Gk_18 Ho_18 Hk_18
    clear gH
    go_wp2_with fail
    go_ret
    exact ⟨rfl, HB0.out.trans (B_19.out.mono HB0.out.size)⟩
theorem wrK_fit (S : List Ly) (b : Int) (s : ByteArray) : FitK ((wrK S b s).getD []) := by
  by_cases h : WrOk S b s
  · obtain ⟨S0, z, rfl⟩ : ∃ S0 z, S = S0 ++ [z] := by
      rcases List.eq_nil_or_concat S with h' | ⟨S0, z, h'⟩
      · subst h'; have := h.1.1; exact absurd this (by simp)
      · exact ⟨S0, z, by simpa using h'⟩
    have hg := good_wt h.1
    have hz := rise_few (lyk_last h.1).1
    have hl := insU_len b z.bl
    rw [wrK_yes h, Option.getD_some]
    unfold FitK
    unfold wtK at hg ⊢
    rw [List.map_append, List.sum_append_nat] at hg ⊢
    have e : ([putLy z b s].map wtY).sum = 1 + (insU b z.bl).length + (insU b z.bl).length := by simp [wtY, putLy]
    rw [e]
    omega
  · rw [wrK_no h]
    show wtK [] ≤ _; decide
theorem walk_WriteMark (a : Option Addr) (k : Nat) (S : List Ly) (b : Int) (s : ByteArray) (w : World) (hn : S.length ≤ 9223372036854775807) (hz : ∀ s ∈ S, cntY s) (hG : Ys w.heap.size a S w) (_hb : fit b) (hs : s.size ≤ 9223372036854775807) : Calls Try.prog 3 #[.agg #[.slice a S.length k], .int .i64 b, .string s] w fun e w' => e = .returned (.bool true) ∧ Below w.heap.size w w' :=
  law_WriteMark a k S b s w hn hz hG hs fun hf _ => ⟨(wrK S b s).getD [], (wrK S b s).isSome, wrK_fit S b s, fun a k v h1 _ => swrite_any a k S b s v hf.len hf.bl h1, fun a k v h1 h2 => (iwrite_any a k S b s v h2 hf.bl h1).mono fun _ _ h => h.owns⟩
end Go.Proofs.Ytddkfaoopejjiaa
