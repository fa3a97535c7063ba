/- The exact law of DropMark: its walk out of the contracts of the model and of the program. -/
import Derived.Test.YtmbkdollakbigaaHB
import Derived.Test.YtmbkdollakbigaaKDs
import Derived.Test.YtmbkdollakbigaaKSz2
import Derived.Test.YtmbkdollakbigaaHA
import Derived.Deep.RegionHeld
namespace Go.Proofs.Ytmbkdollakbigaa
set_option maxRecDepth 100000
open Go Go.ChangeShapes Go.WideShapes Go.ChangeAt Go.RowKit
theorem drp_fit (A : List Ly) (m : Int) : FitK (drpK A m) := by
  by_cases h : DrpOk A m
  · exact good_fit (drpK_good h)
  · rw [drpK_no h]
    show wtK [] ≤ _
    decide
theorem drp_out {A : List Ly} {m : Int} {w : World} {e : Ending} {w' : World} (h : MOut (drpO A m) w e w') : ∃ q r, e = .returned (.tuple #[.agg #[.slice q (drpK A m).length r], .bool (decide (DrpOk A m))]) ∧ OwnK w.heap.size w'.heap.size q (drpK A m) w' ∧ Below w.heap.size w w' := by
  by_cases hd : DrpOk A m
  · rw [drpO_yes hd] at h
    obtain ⟨b, c, h1, h2, h3, -⟩ := h
    exact ⟨b, c, by rw [h1, decide_eq_true hd], h2, h3⟩
  · rw [drpO_no hd] at h
    obtain ⟨h1, h2⟩ := h
    exact ⟨none, 0, by rw [h1, drpK_no hd, decide_eq_false hd]; rfl, by rw [drpK_no hd]; exact Or.inl rfl, h2⟩
/-- function f answers so; what it answers can be read -/
def SaysDropMark (f : Nat) (A : List Ly) (m : Int) (V : List Ly) (x0 : Bool) : Prop := ∀ (a : Option Addr) (c : Nat) (v : World), Mr a c A v → Calls Try.prog f #[.agg #[.slice a A.length c], .int .i64 m] v fun e w' => ∃ q r, e = .returned (.tuple #[.agg #[.slice q V.length r], .bool x0]) ∧ Ys w'.heap.size q V w' ∧ Below v.heap.size v w'
/-- function f answers so, in memory of its own -/
def OwnsDropMark (f : Nat) (A : List Ly) (m : Int) (V : List Ly) (x0 : Bool) : Prop := ∀ (a : Option Addr) (c : Nat) (v : World), Mr a c A v → Calls Try.prog f #[.agg #[.slice a A.length c], .int .i64 m] v fun e w' => ∃ q r, e = .returned (.tuple #[.agg #[.slice q V.length r], .bool x0]) ∧ OwnK v.heap.size w'.heap.size q V w' ∧ Below v.heap.size v w'
set_option maxHeartbeats 16000000 in
theorem law_DropMark (a : Option Addr) (c : Nat) (A : List Ly) (m : Int) (w : World) (hnA : A.length ≤ 9223372036854775807) (hzA : ∀ s ∈ A, cntY s) (hGA : Ys w.heap.size a A w)
    (H : FitK A → ∃ (V : List Ly) (x0 : Bool), FitK V ∧ SaysDropMark 14 A m V x0 ∧ OwnsDropMark 15 A m V x0) :
    Calls Try.prog 4 #[.agg #[.slice a A.length c], .int .i64 m] w fun e w' => e = .returned (.bool true) ∧ Below w.heap.size w w' := by
  have HH : Hid (FitK A → ∃ (V : List Ly) (x0 : Bool), FitK V ∧ SaysDropMark 14 A m V x0 ∧ OwnsDropMark 15 A m V x0) := H
  obtain ⟨w0, hw0⟩ : ∃ w0, w0 = w.alloc (.cells #[.slice a A.length c] 24) := ⟨_, rfl⟩
  have HB0 : Hid (Below w.heap.size w w0) := by show Below w.heap.size w w0; rw [hw0]; exact boxB _ _
  have k0 : w0.heap[w.heap.size]? = some (.cells #[.slice a A.length c] 24) := by rw [hw0]; exact heap_last _ _
  have HX : Hid (∀ v, Below w0.heap.size w0 v → v.cell? ⟨w.heap.size, 0, none⟩ = some (.slice a A.length c)) := fun v g => box_cell ((g.block _ (kboxS k0)).trans k0) 0
  have ss0 := kboxS k0
  have HZA : Hid (∀ v, Below w0.heap.size w0 v → Ys v.heap.size a A v) := fun v g => by
    have g' := HB0.out.trans (g.mono HB0.out.size)
    exact (hGA.below g').mono g'.size
  have HSZA : Hid (∀ (left : Int), 0 ≤ left → left ≤ 1048576 → ∀ v, Below w0.heap.size w0 v → Calls Try.prog 5 #[.agg #[.slice a A.length c], .int .i64 left] v fun e w' => (∃ r : Int, e = .returned (.int .i64 r) ∧ r ≤ left ∧ (0 ≤ r → FitK A)) ∧ Below v.heap.size v w') := fun left l0 l1 v g => szMarks_g a c A left v l0 l1 hnA hzA (HZA.out v g)
  have HTOA : Hid (FitK A → ∀ v, Below w0.heap.size w0 v → Calls Try.prog 7 #[.agg #[.slice a A.length c]] v fun e w' => ∃ b c, e = .returned (.agg #[.slice b A.length c]) ∧ OwnK v.heap.size w'.heap.size b A w' ∧ Below v.heap.size v w' ∧ A.length ≤ c) := fun f v g => toMarks_any a c A v f (HZA.out v g)
  have W0 : Hid (w0 = w.alloc (.cells #[.slice a A.length c] 24)) := hw0
  clear H hw0 k0 hGA hzA hnA
  have B_0 : Hid (Below w0.heap.size w0 w0) := Below.refl _ _
  go_enter Try.func4, Try.ntmps4
  go_wp2_with fail
  rw [← W0.out]
  refine (HSZA.out 1048576 (by decide) (Int.le_refl _) _ B_0.out).mono ?_
  rintro e w1 ⟨⟨r0, rfl, le0, hr0⟩, g0⟩
  have HR0 := hid hr0
  clear hr0 HSZA
  have s1 := g0.size
  have B_1 : Hid (Below w0.heap.size w0 w1) := B_0.out.trans (g0.mono B_0.out.size)
  clear B_0
  clear g0
  by_cases p0 : 0 ≤ r0
  case neg =>
    have hd0 : decide (r0 < 0) = true := decide_eq_true (by omega)
    clear HR0
    go_wp2_with fail
    go_ret
    exact ⟨rfl, HB0.out.trans (B_1.out.mono HB0.out.size)⟩
  have hd0 : decide (r0 < 0) = false := decide_eq_false (by omega)
  have HFA := hid (HR0.out p0)
  have HTA := hid (HTOA.out HFA.out)
  clear HR0 HTOA
  obtain ⟨V, x0, hV, h9, h11⟩ := HH.out HFA.out
  have H9 : Hid (SaysDropMark 14 A m V x0) := h9
  have H11 : Hid (OwnsDropMark 15 A m V x0) := h11
  have HV := hid hV
  clear h9 h11 HH hV
  have hkx0 : (x0 != x0) = false := by cases x0 <;> rfl
  have xa := HX.out _ B_1.out
  go_wp2_with fail
  refine (HTA.out _ B_1.out).mono ?_
  rintro e w2 ⟨tb, tc, rfl, oT, gT, kT⟩
  clear xa
  have s2 := gT.size
  have B_2 : Hid (Below w0.heap.size w0 w2) := B_1.out.trans (gT.mono B_1.out.size)
  clear B_1
  have CT : Hid (Mr tb tc A w2) := ⟨HFA.out, kT, oT.ys⟩
  clear oT gT kT
  go_wp2_with fail
  refine (H9.out _ _ _ CT.out).mono ?_
  rintro e w3 ⟨Wq, Wr, rfl, oC, gC⟩
  have s3 := gC.size
  have B_3 : Hid (Below w0.heap.size w0 w3) := B_2.out.trans (gC.mono B_2.out.size)
  clear B_2
  have W_3 : Hid (Ys w3.heap.size Wq V w3) := oC
  clear oC gC
  clear CT
  clear H9
  have gA := boxB w3 (.cells #[.slice Wq V.length Wr] 31)
  have hA := heap_last w3 (.cells #[.slice Wq V.length Wr] 31)
  have zA : (w3.alloc (.cells #[.slice Wq V.length Wr] 31)).heap.size = w3.heap.size + 1 := heap_size _ _
  generalize hW4 : w3.alloc (.cells #[.slice Wq V.length Wr] 31) = w4 at *
  have s4 := gA.size
  have B_4 : Hid (Below w0.heap.size w0 w4) := B_3.out.trans (gA.mono B_3.out.size)
  have W_4 : Hid (Ys w3.heap.size Wq V w4) := W_3.out.below (gA.mono (by omega))
  clear B_3 W_3
  have Wk_4 : Hid (w4.heap[w3.heap.size]? = some (.cells #[.slice Wq V.length Wr] 31)) := hA
  have zz4 := zA
  clear gA hA zA
  have xa := HX.out _ B_4.out
  go_wp2_with fail
  refine (HTA.out _ B_4.out).mono ?_
  rintro e w5 ⟨pA, cA, rfl, oT, gT, kT⟩
  clear xa
  have s5 := gT.size
  have B_5 : Hid (Below w0.heap.size w0 w5) := B_4.out.trans (gT.mono B_4.out.size)
  have W_5 : Hid (Ys w3.heap.size Wq V w5) := W_4.out.below (gT.mono (by omega))
  have Wk_5 : Hid (w5.heap[w3.heap.size]? = some (.cells #[.slice Wq V.length Wr] 31)) := (gT.block _ (kboxS Wk_4.out)).trans Wk_4.out
  clear B_4 W_4 Wk_4
  have XA_5 : Hid (OwnK w4.heap.size w5.heap.size pA A w5) := oT
  have KTA := hid kT
  clear oT gT kT
  have gA := boxB w5 (.cells #[.slice pA A.length cA] 31)
  have hA := heap_last w5 (.cells #[.slice pA A.length cA] 31)
  have zA : (w5.alloc (.cells #[.slice pA A.length cA] 31)).heap.size = w5.heap.size + 1 := heap_size _ _
  generalize hW6 : w5.alloc (.cells #[.slice pA A.length cA] 31) = w6 at *
  have s6 := gA.size
  have B_6 : Hid (Below w0.heap.size w0 w6) := B_5.out.trans (gA.mono B_5.out.size)
  have W_6 : Hid (Ys w3.heap.size Wq V w6) := W_5.out.below (gA.mono (by omega))
  have Wk_6 : Hid (w6.heap[w3.heap.size]? = some (.cells #[.slice Wq V.length Wr] 31)) := (gA.block _ (kboxS Wk_5.out)).trans Wk_5.out
  have XA_6 : Hid (OwnK w4.heap.size w5.heap.size pA A w6) := XA_5.out.on gA
  clear B_5 W_5 Wk_5 XA_5
  have XAk_6 : Hid (w6.heap[w5.heap.size]? = some (.cells #[.slice pA A.length cA] 31)) := hA
  have zz6 := zA
  clear gA hA zA
  have yA : w6.cell? ⟨w5.heap.size, 0, none⟩ = some (.slice pA A.length cA) := box_cell XAk_6.out 0
  go_wp2_with fail
  refine (H11.out pA cA _ ⟨HFA.out, KTA.out, (XA_6.out.ys)⟩).mono ?_
  rintro e w7 ⟨Gq, Gr, rfl, oC, gC⟩
  have s7 := gC.size
  have B_7 : Hid (Below w0.heap.size w0 w7) := B_6.out.trans (gC.mono B_6.out.size)
  have W_7 : Hid (Ys w3.heap.size Wq V w7) := W_6.out.below (gC.mono (by omega))
  have Wk_7 : Hid (w7.heap[w3.heap.size]? = some (.cells #[.slice Wq V.length Wr] 31)) := (gC.block _ (kboxS Wk_6.out)).trans Wk_6.out
  have XA_7 : Hid (OwnK w4.heap.size w5.heap.size pA A w7) := XA_6.out.on gC
  have XAk_7 : Hid (w7.heap[w5.heap.size]? = some (.cells #[.slice pA A.length cA] 31)) := (gC.block _ (kboxS XAk_6.out)).trans XAk_6.out
  clear B_6 W_6 Wk_6 XA_6 XAk_6
  have G_7 : Hid (OwnK w6.heap.size w7.heap.size Gq V w7) := oC
  clear oC gC
  clear yA
  have gA := boxB w7 (.cells #[.slice Gq V.length Gr] 31)
  have hA := heap_last w7 (.cells #[.slice Gq V.length Gr] 31)
  have zA : (w7.alloc (.cells #[.slice Gq V.length Gr] 31)).heap.size = w7.heap.size + 1 := heap_size _ _
  generalize hW8 : w7.alloc (.cells #[.slice Gq V.length Gr] 31) = w8 at *
  have s8 := gA.size
  have B_8 : Hid (Below w0.heap.size w0 w8) := B_7.out.trans (gA.mono B_7.out.size)
  have W_8 : Hid (Ys w3.heap.size Wq V w8) := W_7.out.below (gA.mono (by omega))
  have Wk_8 : Hid (w8.heap[w3.heap.size]? = some (.cells #[.slice Wq V.length Wr] 31)) := (gA.block _ (kboxS Wk_7.out)).trans Wk_7.out
  have XA_8 : Hid (OwnK w4.heap.size w5.heap.size pA A w8) := XA_7.out.on gA
  have XAk_8 : Hid (w8.heap[w5.heap.size]? = some (.cells #[.slice pA A.length cA] 31)) := (gA.block _ (kboxS XAk_7.out)).trans XAk_7.out
  have G_8 : Hid (OwnK w6.heap.size w7.heap.size Gq V w8) := G_7.out.on gA
  clear B_7 W_7 Wk_7 XA_7 XAk_7 G_7
  have Gk_8 : Hid (w8.heap[w7.heap.size]? = some (.cells #[.slice Gq V.length Gr] 31)) := hA
  have zz8 := zA
  clear gA hA zA
  have y1 : w8.cell? ⟨w7.heap.size, 0, none⟩ = some (.slice Gq V.length Gr) := box_cell Gk_8.out 0
  have y2 : w8.cell? ⟨w3.heap.size, 0, none⟩ = some (.slice Wq V.length Wr) := box_cell Wk_8.out 0
  go_wp2_with fail
  refine (eqMarks_same Gq Wq Gr Wr V _ HV.out G_8.out.ys (W_8.out.mono (by omega))).mono ?_
  rintro e w9 ⟨rfl, gE⟩
  clear y1 y2
  have s9 := gE.size
  have B_9 : Hid (Below w0.heap.size w0 w9) := B_8.out.trans (gE.mono B_8.out.size)
  have W_9 : Hid (Ys w3.heap.size Wq V w9) := W_8.out.below (gE.mono (by omega))
  have Wk_9 : Hid (w9.heap[w3.heap.size]? = some (.cells #[.slice Wq V.length Wr] 31)) := (gE.block _ (kboxS Wk_8.out)).trans Wk_8.out
  have XA_9 : Hid (OwnK w4.heap.size w5.heap.size pA A w9) := XA_8.out.on gE
  have XAk_9 : Hid (w9.heap[w5.heap.size]? = some (.cells #[.slice pA A.length cA] 31)) := (gE.block _ (kboxS XAk_8.out)).trans XAk_8.out
  have G_9 : Hid (OwnK w6.heap.size w7.heap.size Gq V w9) := G_8.out.on gE
  have Gk_9 : Hid (w9.heap[w7.heap.size]? = some (.cells #[.slice Gq V.length Gr] 31)) := (gE.block _ (kboxS Gk_8.out)).trans Gk_8.out
  clear B_8 W_8 Wk_8 XA_8 XAk_8 G_8 Gk_8
  clear gE
  try clear hW1 hW2 hW3 hW4 hW5 hW6 hW7 hW8 hW9
  have BD : Below w9.heap.size w9 w9.drew := (Below.refl _ _).drew
  have HS : Hid (∀ v, Below w9.heap.size w9 v → v.cell? ⟨w5.heap.size, 0, none⟩ = some (.slice pA A.length cA) ∧ v.cell? ⟨w.heap.size, 0, none⟩ = some (.slice a A.length c)) := fun v g => ⟨box_cell ((g.block _ (kboxS XAk_9.out)).trans XAk_9.out) 0, (HX.out v (B_9.out.trans (g.mono B_9.out.size)))⟩
  have HCd : Hid (∀ v, Below w9.heap.size w9 v → Calls Try.prog 7 #[.agg #[.slice a A.length c]] v fun e w' => ∃ b c, e = .returned (.agg #[.slice b A.length c]) ∧ OwnK v.heap.size w'.heap.size b A w' ∧ Below v.heap.size v w' ∧ A.length ≤ c) := fun v g => HTA.out v (B_9.out.trans (g.mono B_9.out.size))
  have HEQ : Hid (∀ v (b : Option Addr) (c : Nat), Below w9.heap.size w9 v → Ys v.heap.size b A v → Calls Try.prog 10 #[.agg #[.slice pA A.length cA], .agg #[.slice b A.length c]] v fun e w' => e = .returned (.bool true) ∧ Below v.heap.size v w') := fun v b c g h1 => eqMarks_same pA b cA c A v HFA.out (XA_9.out.on g).ys h1
  obtain ⟨z1, z2⟩ := HS.out _ BD
  have y1 : w9.cell? ⟨w5.heap.size, 0, none⟩ = some (.slice pA A.length cA) := box_cell XAk_9.out 0
  go_wp2_with fail
  go_region_held (fun v => v.cell? ⟨w5.heap.size, 0, none⟩ = some (.slice pA A.length cA) ∧ v.cell? ⟨w.heap.size, 0, none⟩ = some (.slice a A.length c)) (first | exact HS.out _ (by with_reducible assumption)) (first | (go_at_call 7; refine (HCd.out _ (by with_reducible assumption)).mono ?_; rintro e wa ⟨b7, c7, rfl, o7, g7, -⟩; have B7 : Below w9.heap.size w9 wa := BD.trans (g7.mono BD.size)) | (go_at_call 10; refine (HEQ.out _ _ _ B7 o7.ys).mono ?_; rintro e w10 ⟨rfl, g8⟩; have B8 : Below w9.heap.size w9 w10 := B7.trans (g8.mono B7.size)))
  all_goals
    have gR := B8
    clear o7 g7 g8 B7 B8 BD HS HCd HEQ z1 z2 y1
    have s10 := gR.size
    have B_10 : Hid (Below w0.heap.size w0 w10) := B_9.out.trans (gR.mono B_9.out.size)
    have W_10 : Hid (Ys w3.heap.size Wq V w10) := W_9.out.below (gR.mono (by omega))
    have Wk_10 : Hid (w10.heap[w3.heap.size]? = some (.cells #[.slice Wq V.length Wr] 31)) := (gR.block _ (kboxS Wk_9.out)).trans Wk_9.out
    have XA_10 : Hid (OwnK w4.heap.size w5.heap.size pA A w10) := XA_9.out.on gR
    have XAk_10 : Hid (w10.heap[w5.heap.size]? = some (.cells #[.slice pA A.length cA] 31)) := (gR.block _ (kboxS XAk_9.out)).trans XAk_9.out
    have G_10 : Hid (OwnK w6.heap.size w7.heap.size Gq V w10) := G_9.out.on gR
    have Gk_10 : Hid (w10.heap[w7.heap.size]? = some (.cells #[.slice Gq V.length Gr] 31)) := (gR.block _ (kboxS Gk_9.out)).trans Gk_9.out
    clear B_9 W_9 Wk_9 XA_9 XAk_9 G_9 Gk_9
    clear gR
    have y1 : w10.cell? ⟨w5.heap.size, 0, none⟩ = some (.slice pA A.length cA) := box_cell XAk_10.out 0
    have hw0 : wtK A ≤ 1048576 := HFA.out
    go_wp2_with fail
    refine (markMarks_any _ _ pA cA A _ HFA.out XA_10.out).mono ?_
    rintro e w11 ⟨rfl, oM, tM⟩
    clear y1
    have s11 := tM.size
    have B_11 : Hid (Below w0.heap.size w0 w11) := B_10.out.trans (tM.below (by omega) B_10.out.size)
    have W_11 : Hid (Ys w3.heap.size Wq V w11) := W_10.out.below (tM.below (by omega) (by omega))
    have Wk_11 : Hid (w11.heap[w3.heap.size]? = some (.cells #[.slice Wq V.length Wr] 31)) := (tM.block _ (kboxS Wk_10.out) (by have := kboxS Wk_10.out; omega)).trans Wk_10.out
    have XA_11 : Hid (OwnK w4.heap.size w5.heap.size pA (kmarks A 1) w11) := oM
    have XAk_11 : Hid (w11.heap[w5.heap.size]? = some (.cells #[.slice pA A.length cA] 31)) := (tM.block _ (kboxS XAk_10.out) (by have := kboxS XAk_10.out; omega)).trans XAk_10.out
    have G_11 : Hid (OwnK w6.heap.size w7.heap.size Gq V w11) := G_10.out.out tM (by omega)
    have Gk_11 : Hid (w11.heap[w7.heap.size]? = some (.cells #[.slice Gq V.length Gr] 31)) := (tM.block _ (kboxS Gk_10.out) (by have := kboxS Gk_10.out; omega)).trans Gk_10.out
    clear B_10 W_10 Wk_10 XA_10 XAk_10 G_10 Gk_10
    clear oM tM
    obtain ⟨m0, hm0⟩ : ∃ m, 1 + wtK A = m := ⟨_, rfl⟩
    rw [hm0]
    have hp0 : 1 ≤ m0 ∧ m0 ≤ 1048578 := by omega
    clear hm0 hw0
    have hmd : decide (((m0 : Nat) : Int) < 0) = false := decide_eq_false (by omega)
    have y1 : w11.cell? ⟨w7.heap.size, 0, none⟩ = some (.slice Gq V.length Gr) := box_cell Gk_11.out 0
    have y2 : w11.cell? ⟨w3.heap.size, 0, none⟩ = some (.slice Wq V.length Wr) := box_cell Wk_11.out 0
    go_wp2_with fail
    refine (eqMarks_same Gq Wq Gr Wr V _ HV.out G_11.out.ys (W_11.out.mono (by omega))).mono ?_
    rintro e w12 ⟨rfl, gE⟩
    clear y1 y2
    have s12 := gE.size
    have B_12 : Hid (Below w0.heap.size w0 w12) := B_11.out.trans (gE.mono B_11.out.size)
    have W_12 : Hid (Ys w3.heap.size Wq V w12) := W_11.out.below (gE.mono (by omega))
    have Wk_12 : Hid (w12.heap[w3.heap.size]? = some (.cells #[.slice Wq V.length Wr] 31)) := (gE.block _ (kboxS Wk_11.out)).trans Wk_11.out
    have XA_12 : Hid (OwnK w4.heap.size w5.heap.size pA (kmarks A 1) w12) := XA_11.out.on gE
    have XAk_12 : Hid (w12.heap[w5.heap.size]? = some (.cells #[.slice pA A.length cA] 31)) := (gE.block _ (kboxS XAk_11.out)).trans XAk_11.out
    have G_12 : Hid (OwnK w6.heap.size w7.heap.size Gq V w12) := G_11.out.on gE
    have Gk_12 : Hid (w12.heap[w7.heap.size]? = some (.cells #[.slice Gq V.length Gr] 31)) := (gE.block _ (kboxS Gk_11.out)).trans Gk_11.out
    clear B_11 W_11 Wk_11 XA_11 XAk_11 G_11 Gk_11
    clear gE
    clear XA_12
    clear XAk_12
    have y1 : w12.cell? ⟨w7.heap.size, 0, none⟩ = some (.slice Gq V.length Gr) := box_cell Gk_12.out 0
    go_wp2_with fail
    refine (markMarks_any _ _ Gq Gr V _ HV.out G_12.out).mono ?_
    rintro e w13 ⟨rfl, oM, tM⟩
    clear y1
    have s13 := tM.size
    have B_13 : Hid (Below w0.heap.size w0 w13) := B_12.out.trans (tM.below (by omega) B_12.out.size)
    have W_13 : Hid (Ys w3.heap.size Wq V w13) := W_12.out.below (tM.below (by omega) (by omega))
    have Wk_13 : Hid (w13.heap[w3.heap.size]? = some (.cells #[.slice Wq V.length Wr] 31)) := (tM.block _ (kboxS Wk_12.out) (by have := kboxS Wk_12.out; omega)).trans Wk_12.out
    have G_13 : Hid (OwnK w6.heap.size w7.heap.size Gq (kmarks V 1) w13) := oM
    have Gk_13 : Hid (w13.heap[w7.heap.size]? = some (.cells #[.slice Gq V.length Gr] 31)) := (tM.block _ (kboxS Gk_12.out) (by have := kboxS Gk_12.out; omega)).trans Gk_12.out
    clear B_12 W_12 Wk_12 G_12 Gk_12
    clear oM tM
    have hm2 : decide (((1 + wtK V : Nat) : Int) < 0) = false := decide_eq_false (by omega)
    have y1 : w13.cell? ⟨w7.heap.size, 0, none⟩ = some (.slice Gq V.length Gr) := box_cell Gk_13.out 0
    go_wp2_with fail
    refine (heldMarks_any _ _ Gq Gr V _ HV.out G_13.out).mono ?_
    rintro e w14 ⟨rfl, gH⟩
    clear y1
    have s14 := gH.size
    have B_14 : Hid (Below w0.heap.size w0 w14) := B_13.out.trans (gH.mono B_13.out.size)
    have W_14 : Hid (Ys w3.heap.size Wq V w14) := W_13.out.below (gH.mono (by omega))
    have Wk_14 : Hid (w14.heap[w3.heap.size]? = some (.cells #[.slice Wq V.length Wr] 31)) := (gH.block _ (kboxS Wk_13.out)).trans Wk_13.out
    have G_14 : Hid (OwnK w6.heap.size w7.heap.size Gq (kmarks V 1) w14) := G_13.out.on gH
    have Gk_14 : Hid (w14.heap[w7.heap.size]? = some (.cells #[.slice Gq V.length Gr] 31)) := (gH.block _ (kboxS Gk_13.out)).trans Gk_13.out
    clear B_13 W_13 Wk_13 G_13 Gk_13
    clear gH
    have xa := HX.out _ B_14.out
    go_wp2_with fail
    refine (HTA.out _ B_14.out).mono ?_
    rintro e w15 ⟨tb, tc, rfl, oT, gT, kT⟩
    clear xa
    have s15 := gT.size
    have B_15 : Hid (Below w0.heap.size w0 w15) := B_14.out.trans (gT.mono B_14.out.size)
    have W_15 : Hid (Ys w3.heap.size Wq V w15) := W_14.out.below (gT.mono (by omega))
    have Wk_15 : Hid (w15.heap[w3.heap.size]? = some (.cells #[.slice Wq V.length Wr] 31)) := (gT.block _ (kboxS Wk_14.out)).trans Wk_14.out
    have G_15 : Hid (OwnK w6.heap.size w7.heap.size Gq (kmarks V 1) w15) := G_14.out.on gT
    have Gk_15 : Hid (w15.heap[w7.heap.size]? = some (.cells #[.slice Gq V.length Gr] 31)) := (gT.block _ (kboxS Gk_14.out)).trans Gk_14.out
    clear B_14 W_14 Wk_14 G_14 Gk_14
    have CT : Hid (Mr tb tc A w15) := ⟨HFA.out, kT, oT.ys⟩
    clear oT gT kT
    go_wp2_with fail
    refine (H11.out _ _ _ CT.out).mono ?_
    rintro e w16 ⟨Qq, Qr, rfl, oC, gC⟩
    have s16 := gC.size
    have B_16 : Hid (Below w0.heap.size w0 w16) := B_15.out.trans (gC.mono B_15.out.size)
    have W_16 : Hid (Ys w3.heap.size Wq V w16) := W_15.out.below (gC.mono (by omega))
    have Wk_16 : Hid (w16.heap[w3.heap.size]? = some (.cells #[.slice Wq V.length Wr] 31)) := (gC.block _ (kboxS Wk_15.out)).trans Wk_15.out
    have G_16 : Hid (OwnK w6.heap.size w7.heap.size Gq (kmarks V 1) w16) := G_15.out.on gC
    have Gk_16 : Hid (w16.heap[w7.heap.size]? = some (.cells #[.slice Gq V.length Gr] 31)) := (gC.block _ (kboxS Gk_15.out)).trans Gk_15.out
    clear B_15 W_15 Wk_15 G_15 Gk_15
    have Q_16 : Hid (OwnK w15.heap.size w16.heap.size Qq V w16) := oC
    clear oC gC
    clear CT
    have gA := boxB w16 (.cells #[.slice Qq V.length Qr] 31)
    have hA := heap_last w16 (.cells #[.slice Qq V.length Qr] 31)
    have zA : (w16.alloc (.cells #[.slice Qq V.length Qr] 31)).heap.size = w16.heap.size + 1 := heap_size _ _
    generalize hW17 : w16.alloc (.cells #[.slice Qq V.length Qr] 31) = w17 at *
    have s17 := gA.size
    have B_17 : Hid (Below w0.heap.size w0 w17) := B_16.out.trans (gA.mono B_16.out.size)
    have W_17 : Hid (Ys w3.heap.size Wq V w17) := W_16.out.below (gA.mono (by omega))
    have Wk_17 : Hid (w17.heap[w3.heap.size]? = some (.cells #[.slice Wq V.length Wr] 31)) := (gA.block _ (kboxS Wk_16.out)).trans Wk_16.out
    have G_17 : Hid (OwnK w6.heap.size w7.heap.size Gq (kmarks V 1) w17) := G_16.out.on gA
    have Gk_17 : Hid (w17.heap[w7.heap.size]? = some (.cells #[.slice Gq V.length Gr] 31)) := (gA.block _ (kboxS Gk_16.out)).trans Gk_16.out
    have Q_17 : Hid (OwnK w15.heap.size w16.heap.size Qq V w17) := Q_16.out.on gA
    clear B_16 W_16 Wk_16 G_16 Gk_16 Q_16
    have Qk_17 : Hid (w17.heap[w16.heap.size]? = some (.cells #[.slice Qq V.length Qr] 31)) := hA
    have zz17 := zA
    clear gA hA zA
    have y1 : w17.cell? ⟨w16.heap.size, 0, none⟩ = some (.slice Qq V.length Qr) := box_cell Qk_17.out 0
    have y2 : w17.cell? ⟨w3.heap.size, 0, none⟩ = some (.slice Wq V.length Wr) := box_cell Wk_17.out 0
    go_wp2_with fail
    refine (eqMarks_same Qq Wq Qr Wr V _ HV.out Q_17.out.ys (W_17.out.mono (by omega))).mono ?_
    rintro e w18 ⟨rfl, gE⟩
    clear y1 y2
    have s18 := gE.size
    have B_18 : Hid (Below w0.heap.size w0 w18) := B_17.out.trans (gE.mono B_17.out.size)
    have W_18 : Hid (Ys w3.heap.size Wq V w18) := W_17.out.below (gE.mono (by omega))
    have Wk_18 : Hid (w18.heap[w3.heap.size]? = some (.cells #[.slice Wq V.length Wr] 31)) := (gE.block _ (kboxS Wk_17.out)).trans Wk_17.out
    have G_18 : Hid (OwnK w6.heap.size w7.heap.size Gq (kmarks V 1) w18) := G_17.out.on gE
    have Gk_18 : Hid (w18.heap[w7.heap.size]? = some (.cells #[.slice Gq V.length Gr] 31)) := (gE.block _ (kboxS Gk_17.out)).trans Gk_17.out
    have Q_18 : Hid (OwnK w15.heap.size w16.heap.size Qq V w18) := Q_17.out.on gE
    have Qk_18 : Hid (w18.heap[w16.heap.size]? = some (.cells #[.slice Qq V.length Qr] 31)) := (gE.block _ (kboxS Qk_17.out)).trans Qk_17.out
    clear B_17 W_17 Wk_17 G_17 Gk_17 Q_17 Qk_17
    clear gE
    have y1 : w18.cell? ⟨w7.heap.size, 0, none⟩ = some (.slice Gq V.length Gr) := box_cell Gk_18.out 0
    go_wp2_with fail
    refine (heldMarks_any _ _ Gq Gr V _ HV.out G_18.out).mono ?_
    rintro e w19 ⟨rfl, gH⟩
    clear y1
    have s19 := gH.size
    have B_19 : Hid (Below w0.heap.size w0 w19) := B_18.out.trans (gH.mono B_18.out.size)
    have W_19 : Hid (Ys w3.heap.size Wq V w19) := W_18.out.below (gH.mono (by omega))
    have Wk_19 : Hid (w19.heap[w3.heap.size]? = some (.cells #[.slice Wq V.length Wr] 31)) := (gH.block _ (kboxS Wk_18.out)).trans Wk_18.out
    have G_19 : Hid (OwnK w6.heap.size w7.heap.size Gq (kmarks V 1) w19) := G_18.out.on gH
    have Gk_19 : Hid (w19.heap[w7.heap.size]? = some (.cells #[.slice Gq V.length Gr] 31)) := (gH.block _ (kboxS Gk_18.out)).trans Gk_18.out
    have Q_19 : Hid (OwnK w15.heap.size w16.heap.size Qq V w19) := Q_18.out.on gH
    have Qk_19 : Hid (w19.heap[w16.heap.size]? = some (.cells #[.slice Qq V.length Qr] 31)) := (gH.block _ (kboxS Qk_18.out)).trans Qk_18.out
    clear B_18 W_18 Wk_18 G_18 Gk_18 Q_18 Qk_18
    clear gH
    go_wp2_with fail
    go_ret
    exact ⟨rfl, HB0.out.trans (B_19.out.mono HB0.out.size)⟩
theorem walk_DropMark (a : Option Addr) (c : Nat) (A : List Ly) (m : Int) (w : World) (hnA : A.length ≤ 9223372036854775807) (hzA : ∀ s ∈ A, cntY s) (hGA : Ys w.heap.size a A w) (_hm : fit m) :
    Calls Try.prog 4 #[.agg #[.slice a A.length c], .int .i64 m] w fun e w' => e = .returned (.bool true) ∧ Below w.heap.size w w' :=
  law_DropMark a c A m w hnA hzA hGA (fun _ => ⟨drpK A m, decide (DrpOk A m), drp_fit A m, fun a c v h1 => sdrop_any a c A m v h1, fun a c v h1 => (idrop_any a c A m v h1).mono fun _ _ h => drp_out h⟩)
end Go.Proofs.Ytmbkdollakbigaa
