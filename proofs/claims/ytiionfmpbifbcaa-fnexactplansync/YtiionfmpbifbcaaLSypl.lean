/- The exact law of PlanSync: its walk out of the contracts of the model and of the program. -/
import Derived.Test.YtiionfmpbifbcaaSyPi
import Derived.Test.YtiionfmpbifbcaaKSz2
import Derived.Test.YtiionfmpbifbcaaHA
import Derived.Deep.RegionHeld
namespace Go.Proofs.Ytiionfmpbifbcaa
set_option maxRecDepth 100000
open Go Go.ChangeShapes Go.WideShapes Go.ChangeAt Go.RowKit
/-- function f answers so; what it answers can be read -/
def SaysPlanSync (f : Nat) (A : List Ly) (B : List Ly) (m : Int) (V : List Int) (x0 : Bool) : Prop := ∀ (a : Option Addr) (c : Nat) (b : Option Addr) (d : Nat) (v : World), Mr a c A v → Mr b d B v → Calls Try.prog f #[.agg #[.slice a A.length c], .agg #[.slice b B.length d], .int .i64 m] v fun e w' => ∃ q r, e = .returned (.tuple #[.slice q V.length r, .bool x0]) ∧ Is w'.heap.size q V w' ∧ Below v.heap.size v w'
/-- function f answers so, in memory of its own -/
def OwnsPlanSync (f : Nat) (A : List Ly) (B : List Ly) (m : Int) (V : List Int) (x0 : Bool) : Prop := ∀ (a : Option Addr) (c : Nat) (b : Option Addr) (d : Nat) (v : World), Mr a c A v → Mr b d B v → Calls Try.prog f #[.agg #[.slice a A.length c], .agg #[.slice b B.length d], .int .i64 m] v fun e w' => ∃ q r, e = .returned (.tuple #[.slice q V.length r, .bool x0]) ∧ OwnI v.heap.size w'.heap.size q V w' ∧ Below v.heap.size v w'
set_option maxHeartbeats 16000000 in
theorem law_PlanSync (a : Option Addr) (c : Nat) (b : Option Addr) (d : Nat) (A : List Ly) (B : List Ly) (m : Int) (w : World) (hnA : A.length ≤ 9223372036854775807) (hzA : ∀ s ∈ A, cntY s) (hGA : Ys w.heap.size a A w) (hnB : B.length ≤ 9223372036854775807) (hzB : ∀ s ∈ B, cntY s) (hGB : Ys w.heap.size b B w)
    (H : FitK A → FitK B → ∃ (V : List Int) (x0 : Bool), V.length ≤ 1048576 ∧ SaysPlanSync 14 A B m V x0 ∧ OwnsPlanSync 15 A B m V x0) :
    Calls Try.prog 4 #[.agg #[.slice a A.length c], .agg #[.slice b B.length d], .int .i64 m] w fun e w' => e = .returned (.bool true) ∧ Below w.heap.size w w' := by
  have HH : Hid (FitK A → FitK B → ∃ (V : List Int) (x0 : Bool), V.length ≤ 1048576 ∧ SaysPlanSync 14 A B m V x0 ∧ OwnsPlanSync 15 A B m V x0) := H
  obtain ⟨w0, hw0⟩ : ∃ w0, w0 = (w.alloc (.cells #[.slice a A.length c] 24)).alloc (.cells #[.slice b B.length d] 24) := ⟨_, rfl⟩
  have HB0 : Hid (Below w.heap.size w w0) := by show Below w.heap.size w w0; rw [hw0]; exact (boxB _ _).trans ((boxB _ _).mono (boxB _ _).size)
  have k0 : w0.heap[w.heap.size]? = some (.cells #[.slice a A.length c] 24) := by rw [hw0]; exact heap_mid2 _ _ _
  have k1 : w0.heap[w.heap.size + 1]? = some (.cells #[.slice b B.length d] 24) := by rw [hw0]; exact heap_last2 _ _ _
  have HX : Hid (∀ v, Below w0.heap.size w0 v → v.cell? ⟨w.heap.size, 0, none⟩ = some (.slice a A.length c) ∧ v.cell? ⟨w.heap.size + 1, 0, none⟩ = some (.slice b B.length d)) := fun v g => ⟨box_cell ((g.block _ (kboxS k0)).trans k0) 0, box_cell ((g.block _ (kboxS k1)).trans k1) 0⟩
  have ss0 := kboxS k1
  have HZA : Hid (∀ v, Below w0.heap.size w0 v → Ys v.heap.size a A v) := fun v g => by
    have g' := HB0.out.trans (g.mono HB0.out.size)
    exact (hGA.below g').mono g'.size
  have HSZA : Hid (∀ (left : Int), 0 ≤ left → left ≤ 1048576 → ∀ v, Below w0.heap.size w0 v → Calls Try.prog 9 #[.agg #[.slice a A.length c], .int .i64 left] v fun e w' => (∃ r : Int, e = .returned (.int .i64 r) ∧ r ≤ left ∧ (0 ≤ r → FitK A)) ∧ Below v.heap.size v w') := fun left l0 l1 v g => szMarks_g a c A left v l0 l1 hnA hzA (HZA.out v g)
  have HTOA : Hid (FitK A → ∀ v, Below w0.heap.size w0 v → Calls Try.prog 11 #[.agg #[.slice a A.length c]] v fun e w' => ∃ b c, e = .returned (.agg #[.slice b A.length c]) ∧ OwnK v.heap.size w'.heap.size b A w' ∧ Below v.heap.size v w' ∧ A.length ≤ c) := fun f v g => toMarks_any a c A v f (HZA.out v g)
  have HZB : Hid (∀ v, Below w0.heap.size w0 v → Ys v.heap.size b B v) := fun v g => by
    have g' := HB0.out.trans (g.mono HB0.out.size)
    exact (hGB.below g').mono g'.size
  have HSZB : Hid (∀ (left : Int), 0 ≤ left → left ≤ 1048576 → ∀ v, Below w0.heap.size w0 v → Calls Try.prog 9 #[.agg #[.slice b B.length d], .int .i64 left] v fun e w' => (∃ r : Int, e = .returned (.int .i64 r) ∧ r ≤ left ∧ (0 ≤ r → FitK B)) ∧ Below v.heap.size v w') := fun left l0 l1 v g => szMarks_g b d B left v l0 l1 hnB hzB (HZB.out v g)
  have HTOB : Hid (FitK B → ∀ v, Below w0.heap.size w0 v → Calls Try.prog 11 #[.agg #[.slice b B.length d]] v fun e w' => ∃ b c, e = .returned (.agg #[.slice b B.length c]) ∧ OwnK v.heap.size w'.heap.size b B w' ∧ Below v.heap.size v w' ∧ B.length ≤ c) := fun f v g => toMarks_any b d B v f (HZB.out v g)
  have W0 : Hid (w0 = (w.alloc (.cells #[.slice a A.length c] 24)).alloc (.cells #[.slice b B.length d] 24)) := hw0
  clear H hw0 k0 k1 hGA hzA hnA hGB hzB hnB
  have B_0 : Hid (Below w0.heap.size w0 w0) := Below.refl _ _
  go_enter Try.func4, Try.ntmps4
  go_wp2_with fail
  rw [← W0.out]
  refine (HSZA.out 1048576 (by decide) (Int.le_refl _) _ B_0.out).mono ?_
  rintro e w1 ⟨⟨r0, rfl, le0, hr0⟩, g0⟩
  have HR0 := hid hr0
  clear hr0 HSZA
  have s1 := g0.size
  have B_1 : Hid (Below w0.heap.size w0 w1) := B_0.out.trans (g0.mono B_0.out.size)
  clear B_0
  clear g0
  by_cases p0 : 0 ≤ r0
  case neg =>
    have hd0 : decide (r0 < 0) = true := decide_eq_true (by omega)
    clear HR0
    go_wp2_with fail
    go_ret
    exact ⟨rfl, HB0.out.trans (B_1.out.mono HB0.out.size)⟩
  have hd0 : decide (r0 < 0) = false := decide_eq_false (by omega)
  have HFA := hid (HR0.out p0)
  have HTA := hid (HTOA.out HFA.out)
  clear HR0 HTOA
  obtain ⟨xa, xb⟩ := HX.out _ B_1.out
  go_wp2_with fail
  refine (HSZB.out r0 p0 (by omega) _ B_1.out).mono ?_
  rintro e w2 ⟨⟨r1, rfl, le1, hr1⟩, g1⟩
  have HR1 := hid hr1
  clear hr1 HSZB xa xb
  have s2 := g1.size
  have B_2 : Hid (Below w0.heap.size w0 w2) := B_1.out.trans (g1.mono B_1.out.size)
  clear B_1
  clear g1
  by_cases p1 : 0 ≤ r1
  case neg =>
    have hd1 : decide (r1 < 0) = true := decide_eq_true (by omega)
    clear HR1
    go_wp2_with fail
    go_ret
    exact ⟨rfl, HB0.out.trans (B_2.out.mono HB0.out.size)⟩
  have hd1 : decide (r1 < 0) = false := decide_eq_false (by omega)
  have HFB := hid (HR1.out p1)
  have HTB := hid (HTOB.out HFB.out)
  clear HR1 HTOB
  obtain ⟨V, x0, hV, h9, h11⟩ := HH.out HFA.out HFB.out
  have H9 : Hid (SaysPlanSync 14 A B m V x0) := h9
  have H11 : Hid (OwnsPlanSync 15 A B m V x0) := h11
  have HV := hid hV
  clear h9 h11 HH hV
  have hkx0 : (x0 != x0) = false := by cases x0 <;> rfl
  have BD : Below w2.heap.size w2 w2.drew := (Below.refl _ _).drew
  have HS : Hid (∀ v, Below w2.heap.size w2 v → v.cell? ⟨w.heap.size, 0, none⟩ = some (.slice a A.length c) ∧ v.cell? ⟨w.heap.size + 1, 0, none⟩ = some (.slice b B.length d)) := fun v g => HX.out v (B_2.out.trans (g.mono B_2.out.size))
  have HCA : Hid (∀ v, Below w2.heap.size w2 v → Calls Try.prog 11 #[.agg #[.slice a A.length c]] v fun e w' => ∃ b c, e = .returned (.agg #[.slice b A.length c]) ∧ Mr b c A w' ∧ Below v.heap.size v w') := fun v g => (HTA.out v (B_2.out.trans (g.mono B_2.out.size))).mono fun _ _ ⟨b, c, h1, h2, h3, h4⟩ => ⟨b, c, h1, ⟨HFA.out, h4, h2.ys⟩, h3⟩
  have HCB : Hid (∀ v, Below w2.heap.size w2 v → Calls Try.prog 11 #[.agg #[.slice b B.length d]] v fun e w' => ∃ b c, e = .returned (.agg #[.slice b B.length c]) ∧ Mr b c B w' ∧ Below v.heap.size v w') := fun v g => (HTB.out v (B_2.out.trans (g.mono B_2.out.size))).mono fun _ _ ⟨b, c, h1, h2, h3, h4⟩ => ⟨b, c, h1, ⟨HFB.out, h4, h2.ys⟩, h3⟩
  obtain ⟨xa, xb⟩ := HS.out _ BD
  go_wp2_with fail
  go_region_held (fun v => v.cell? ⟨w.heap.size, 0, none⟩ = some (.slice a A.length c) ∧ v.cell? ⟨w.heap.size + 1, 0, none⟩ = some (.slice b B.length d)) (first | exact HS.out _ (by with_reducible assumption)) (first | (go_at_call 11; refine (HCA.out _ (by with_reducible assumption)).mono ?_; rintro e wa ⟨ta, ca, rfl, oA, gA⟩; have BA : Below w2.heap.size w2 wa := BD.trans (gA.mono BD.size)) | (go_at_call 11; refine (HCB.out _ BA).mono ?_; rintro e wb ⟨tb, cb, rfl, oB, gB⟩; have BB : Below w2.heap.size w2 wb := BA.trans (gB.mono BA.size)) | (go_at_call 14; refine (H9.out _ _ _ _ _ (oA.on (by first | exact gB | exact (Below.refl _ _))) oB).mono ?_; rintro e w3 ⟨Wq, Wr, rfl, oC, gC⟩; have BC : Below w2.heap.size w2 w3 := BB.trans (gC.mono BB.size)))
  all_goals
    have OC := hid oC
    clear oC
    have gR := BC
    clear oA gA oB gB gC BA BB BC BD HS HCA HCB xa xb
    have s3 := gR.size
    have B_3 : Hid (Below w0.heap.size w0 w3) := B_2.out.trans (gR.mono B_2.out.size)
    clear B_2
    have W_3 : Hid (Is w3.heap.size Wq V w3) := OC.out
    clear OC
    clear gR
    clear H9
    obtain ⟨xa, xb⟩ := HX.out _ B_3.out
    go_wp2_with fail
    refine (HTA.out _ B_3.out).mono ?_
    rintro e w4 ⟨pA, cA, rfl, oT, gT, kT⟩
    clear xa xb
    have s4 := gT.size
    have B_4 : Hid (Below w0.heap.size w0 w4) := B_3.out.trans (gT.mono B_3.out.size)
    have W_4 : Hid (Is w3.heap.size Wq V w4) := W_3.out.below (gT.mono (by omega))
    clear B_3 W_3
    have XA_4 : Hid (OwnK w3.heap.size w4.heap.size pA A w4) := oT
    have KTA := hid kT
    clear oT gT kT
    have gA := boxB w4 (.cells #[.slice pA A.length cA] 30)
    have hA := heap_last w4 (.cells #[.slice pA A.length cA] 30)
    have zA : (w4.alloc (.cells #[.slice pA A.length cA] 30)).heap.size = w4.heap.size + 1 := heap_size _ _
    generalize hW5 : w4.alloc (.cells #[.slice pA A.length cA] 30) = w5 at *
    have s5 := gA.size
    have B_5 : Hid (Below w0.heap.size w0 w5) := B_4.out.trans (gA.mono B_4.out.size)
    have W_5 : Hid (Is w3.heap.size Wq V w5) := W_4.out.below (gA.mono (by omega))
    have XA_5 : Hid (OwnK w3.heap.size w4.heap.size pA A w5) := XA_4.out.on gA
    clear B_4 W_4 XA_4
    have XAk_5 : Hid (w5.heap[w4.heap.size]? = some (.cells #[.slice pA A.length cA] 30)) := hA
    have zz5 := zA
    clear gA hA zA
    obtain ⟨xa, xb⟩ := HX.out _ B_5.out
    go_wp2_with fail
    refine (HTB.out _ B_5.out).mono ?_
    rintro e w6 ⟨pB, cB, rfl, oT, gT, kT⟩
    clear xa xb
    have s6 := gT.size
    have B_6 : Hid (Below w0.heap.size w0 w6) := B_5.out.trans (gT.mono B_5.out.size)
    have W_6 : Hid (Is w3.heap.size Wq V w6) := W_5.out.below (gT.mono (by omega))
    have XA_6 : Hid (OwnK w3.heap.size w4.heap.size pA A w6) := XA_5.out.on gT
    have XAk_6 : Hid (w6.heap[w4.heap.size]? = some (.cells #[.slice pA A.length cA] 30)) := (gT.block _ (kboxS XAk_5.out)).trans XAk_5.out
    clear B_5 W_5 XA_5 XAk_5
    have XB_6 : Hid (OwnK w5.heap.size w6.heap.size pB B w6) := oT
    have KTB := hid kT
    clear oT gT kT
    have gA := boxB w6 (.cells #[.slice pB B.length cB] 30)
    have hA := heap_last w6 (.cells #[.slice pB B.length cB] 30)
    have zA : (w6.alloc (.cells #[.slice pB B.length cB] 30)).heap.size = w6.heap.size + 1 := heap_size _ _
    generalize hW7 : w6.alloc (.cells #[.slice pB B.length cB] 30) = w7 at *
    have s7 := gA.size
    have B_7 : Hid (Below w0.heap.size w0 w7) := B_6.out.trans (gA.mono B_6.out.size)
    have W_7 : Hid (Is w3.heap.size Wq V w7) := W_6.out.below (gA.mono (by omega))
    have XA_7 : Hid (OwnK w3.heap.size w4.heap.size pA A w7) := XA_6.out.on gA
    have XAk_7 : Hid (w7.heap[w4.heap.size]? = some (.cells #[.slice pA A.length cA] 30)) := (gA.block _ (kboxS XAk_6.out)).trans XAk_6.out
    have XB_7 : Hid (OwnK w5.heap.size w6.heap.size pB B w7) := XB_6.out.on gA
    clear B_6 W_6 XA_6 XAk_6 XB_6
    have XBk_7 : Hid (w7.heap[w6.heap.size]? = some (.cells #[.slice pB B.length cB] 30)) := hA
    have zz7 := zA
    clear gA hA zA
    have yA : w7.cell? ⟨w4.heap.size, 0, none⟩ = some (.slice pA A.length cA) := box_cell XAk_7.out 0
    have yB : w7.cell? ⟨w6.heap.size, 0, none⟩ = some (.slice pB B.length cB) := box_cell XBk_7.out 0
    go_wp2_with fail
    refine (H11.out pA cA pB cB _ ⟨HFA.out, KTA.out, (XA_7.out.ys)⟩ ⟨HFB.out, KTB.out, (XB_7.out.ys)⟩).mono ?_
    rintro e w8 ⟨Gq, Gr, rfl, oC, gC⟩
    have s8 := gC.size
    have B_8 : Hid (Below w0.heap.size w0 w8) := B_7.out.trans (gC.mono B_7.out.size)
    have W_8 : Hid (Is w3.heap.size Wq V w8) := W_7.out.below (gC.mono (by omega))
    have XA_8 : Hid (OwnK w3.heap.size w4.heap.size pA A w8) := XA_7.out.on gC
    have XAk_8 : Hid (w8.heap[w4.heap.size]? = some (.cells #[.slice pA A.length cA] 30)) := (gC.block _ (kboxS XAk_7.out)).trans XAk_7.out
    have XB_8 : Hid (OwnK w5.heap.size w6.heap.size pB B w8) := XB_7.out.on gC
    have XBk_8 : Hid (w8.heap[w6.heap.size]? = some (.cells #[.slice pB B.length cB] 30)) := (gC.block _ (kboxS XBk_7.out)).trans XBk_7.out
    clear B_7 W_7 XA_7 XAk_7 XB_7 XBk_7
    have G_8 : Hid (OwnI w7.heap.size w8.heap.size Gq V w8) := oC
    clear oC gC
    clear yA yB
    go_wp2_with fail
    refine (eqIntS_same Gq Wq Gr Wr V _ HV.out G_8.out.is (W_8.out.mono (by omega))).mono ?_
    rintro e w9 ⟨rfl, gE⟩
    have s9 := gE.size
    have B_9 : Hid (Below w0.heap.size w0 w9) := B_8.out.trans (gE.mono B_8.out.size)
    have W_9 : Hid (Is w3.heap.size Wq V w9) := W_8.out.below (gE.mono (by omega))
    have XA_9 : Hid (OwnK w3.heap.size w4.heap.size pA A w9) := XA_8.out.on gE
    have XAk_9 : Hid (w9.heap[w4.heap.size]? = some (.cells #[.slice pA A.length cA] 30)) := (gE.block _ (kboxS XAk_8.out)).trans XAk_8.out
    have XB_9 : Hid (OwnK w5.heap.size w6.heap.size pB B w9) := XB_8.out.on gE
    have XBk_9 : Hid (w9.heap[w6.heap.size]? = some (.cells #[.slice pB B.length cB] 30)) := (gE.block _ (kboxS XBk_8.out)).trans XBk_8.out
    have G_9 : Hid (OwnI w7.heap.size w8.heap.size Gq V w9) := G_8.out.below gE
    clear B_8 W_8 XA_8 XAk_8 XB_8 XBk_8 G_8
    clear gE
    try clear hW1 hW2 hW3 hW4 hW5 hW6 hW7 hW8 hW9
    have BD : Below w9.heap.size w9 w9.drew := (Below.refl _ _).drew
    have HS : Hid (∀ v, Below w9.heap.size w9 v → v.cell? ⟨w4.heap.size, 0, none⟩ = some (.slice pA A.length cA) ∧ v.cell? ⟨w.heap.size, 0, none⟩ = some (.slice a A.length c)) := fun v g => ⟨box_cell ((g.block _ (kboxS XAk_9.out)).trans XAk_9.out) 0, (HX.out v (B_9.out.trans (g.mono B_9.out.size))).1⟩
    have HCd : Hid (∀ v, Below w9.heap.size w9 v → Calls Try.prog 11 #[.agg #[.slice a A.length c]] v fun e w' => ∃ b c, e = .returned (.agg #[.slice b A.length c]) ∧ OwnK v.heap.size w'.heap.size b A w' ∧ Below v.heap.size v w' ∧ A.length ≤ c) := fun v g => HTA.out v (B_9.out.trans (g.mono B_9.out.size))
    have HEQ : Hid (∀ v (b : Option Addr) (c : Nat), Below w9.heap.size w9 v → Ys v.heap.size b A v → Calls Try.prog 13 #[.agg #[.slice pA A.length cA], .agg #[.slice b A.length c]] v fun e w' => e = .returned (.bool true) ∧ Below v.heap.size v w') := fun v b c g h1 => eqMarks_same pA b cA c A v HFA.out (XA_9.out.on g).ys h1
    obtain ⟨z1, z2⟩ := HS.out _ BD
    have y1 : w9.cell? ⟨w4.heap.size, 0, none⟩ = some (.slice pA A.length cA) := box_cell XAk_9.out 0
    go_wp2_with fail
    go_region_held (fun v => v.cell? ⟨w4.heap.size, 0, none⟩ = some (.slice pA A.length cA) ∧ v.cell? ⟨w.heap.size, 0, none⟩ = some (.slice a A.length c)) (first | exact HS.out _ (by with_reducible assumption)) (first | (go_at_call 11; refine (HCd.out _ (by with_reducible assumption)).mono ?_; rintro e wa ⟨b7, c7, rfl, o7, g7, -⟩; have B7 : Below w9.heap.size w9 wa := BD.trans (g7.mono BD.size)) | (go_at_call 13; refine (HEQ.out _ _ _ B7 o7.ys).mono ?_; rintro e w10 ⟨rfl, g8⟩; have B8 : Below w9.heap.size w9 w10 := B7.trans (g8.mono B7.size)))
    all_goals
      have gR := B8
      clear o7 g7 g8 B7 B8 BD HS HCd HEQ z1 z2 y1
      have s10 := gR.size
      have B_10 : Hid (Below w0.heap.size w0 w10) := B_9.out.trans (gR.mono B_9.out.size)
      have W_10 : Hid (Is w3.heap.size Wq V w10) := W_9.out.below (gR.mono (by omega))
      have XA_10 : Hid (OwnK w3.heap.size w4.heap.size pA A w10) := XA_9.out.on gR
      have XAk_10 : Hid (w10.heap[w4.heap.size]? = some (.cells #[.slice pA A.length cA] 30)) := (gR.block _ (kboxS XAk_9.out)).trans XAk_9.out
      have XB_10 : Hid (OwnK w5.heap.size w6.heap.size pB B w10) := XB_9.out.on gR
      have XBk_10 : Hid (w10.heap[w6.heap.size]? = some (.cells #[.slice pB B.length cB] 30)) := (gR.block _ (kboxS XBk_9.out)).trans XBk_9.out
      have G_10 : Hid (OwnI w7.heap.size w8.heap.size Gq V w10) := G_9.out.below gR
      clear B_9 W_9 XA_9 XAk_9 XB_9 XBk_9 G_9
      clear gR
      have BD : Below w10.heap.size w10 w10.drew := (Below.refl _ _).drew
      have HS : Hid (∀ v, Below w10.heap.size w10 v → v.cell? ⟨w6.heap.size, 0, none⟩ = some (.slice pB B.length cB) ∧ v.cell? ⟨w.heap.size + 1, 0, none⟩ = some (.slice b B.length d)) := fun v g => ⟨box_cell ((g.block _ (kboxS XBk_10.out)).trans XBk_10.out) 0, (HX.out v (B_10.out.trans (g.mono B_10.out.size))).2⟩
      have HCd : Hid (∀ v, Below w10.heap.size w10 v → Calls Try.prog 11 #[.agg #[.slice b B.length d]] v fun e w' => ∃ b c, e = .returned (.agg #[.slice b B.length c]) ∧ OwnK v.heap.size w'.heap.size b B w' ∧ Below v.heap.size v w' ∧ B.length ≤ c) := fun v g => HTB.out v (B_10.out.trans (g.mono B_10.out.size))
      have HEQ : Hid (∀ v (b : Option Addr) (c : Nat), Below w10.heap.size w10 v → Ys v.heap.size b B v → Calls Try.prog 13 #[.agg #[.slice pB B.length cB], .agg #[.slice b B.length c]] v fun e w' => e = .returned (.bool true) ∧ Below v.heap.size v w') := fun v b c g h1 => eqMarks_same pB b cB c B v HFB.out (XB_10.out.on g).ys h1
      obtain ⟨z1, z2⟩ := HS.out _ BD
      have y1 : w10.cell? ⟨w6.heap.size, 0, none⟩ = some (.slice pB B.length cB) := box_cell XBk_10.out 0
      go_wp2_with fail
      go_region_held (fun v => v.cell? ⟨w6.heap.size, 0, none⟩ = some (.slice pB B.length cB) ∧ v.cell? ⟨w.heap.size + 1, 0, none⟩ = some (.slice b B.length d)) (first | exact HS.out _ (by with_reducible assumption)) (first | (go_at_call 11; refine (HCd.out _ (by with_reducible assumption)).mono ?_; rintro e wa ⟨b7, c7, rfl, o7, g7, -⟩; have B7 : Below w10.heap.size w10 wa := BD.trans (g7.mono BD.size)) | (go_at_call 13; refine (HEQ.out _ _ _ B7 o7.ys).mono ?_; rintro e w11 ⟨rfl, g8⟩; have B8 : Below w10.heap.size w10 w11 := B7.trans (g8.mono B7.size)))
      all_goals
        have gR := B8
        clear o7 g7 g8 B7 B8 BD HS HCd HEQ z1 z2 y1
        have s11 := gR.size
        have B_11 : Hid (Below w0.heap.size w0 w11) := B_10.out.trans (gR.mono B_10.out.size)
        have W_11 : Hid (Is w3.heap.size Wq V w11) := W_10.out.below (gR.mono (by omega))
        have XA_11 : Hid (OwnK w3.heap.size w4.heap.size pA A w11) := XA_10.out.on gR
        have XAk_11 : Hid (w11.heap[w4.heap.size]? = some (.cells #[.slice pA A.length cA] 30)) := (gR.block _ (kboxS XAk_10.out)).trans XAk_10.out
        have XB_11 : Hid (OwnK w5.heap.size w6.heap.size pB B w11) := XB_10.out.on gR
        have XBk_11 : Hid (w11.heap[w6.heap.size]? = some (.cells #[.slice pB B.length cB] 30)) := (gR.block _ (kboxS XBk_10.out)).trans XBk_10.out
        have G_11 : Hid (OwnI w7.heap.size w8.heap.size Gq V w11) := G_10.out.below gR
        clear B_10 W_10 XA_10 XAk_10 XB_10 XBk_10 G_10
        clear gR
        have y1 : w11.cell? ⟨w4.heap.size, 0, none⟩ = some (.slice pA A.length cA) := box_cell XAk_11.out 0
        have hw0 : wtK A ≤ 1048576 := HFA.out
        go_wp2_with fail
        refine (markMarks_any _ _ pA cA A _ HFA.out XA_11.out).mono ?_
        rintro e w12 ⟨rfl, oM, tM⟩
        clear y1
        have s12 := tM.size
        have B_12 : Hid (Below w0.heap.size w0 w12) := B_11.out.trans (tM.below (by omega) B_11.out.size)
        have W_12 : Hid (Is w3.heap.size Wq V w12) := W_11.out.below (tM.below (by omega) (by omega))
        have XA_12 : Hid (OwnK w3.heap.size w4.heap.size pA (kmarks A 1) w12) := oM
        have XAk_12 : Hid (w12.heap[w4.heap.size]? = some (.cells #[.slice pA A.length cA] 30)) := (tM.block _ (kboxS XAk_11.out) (by have := kboxS XAk_11.out; omega)).trans XAk_11.out
        have XB_12 : Hid (OwnK w5.heap.size w6.heap.size pB B w12) := XB_11.out.out tM (by omega)
        have XBk_12 : Hid (w12.heap[w6.heap.size]? = some (.cells #[.slice pB B.length cB] 30)) := (tM.block _ (kboxS XBk_11.out) (by have := kboxS XBk_11.out; omega)).trans XBk_11.out
        have G_12 : Hid (OwnI w7.heap.size w8.heap.size Gq V w12) := G_11.out.out tM (by omega)
        clear B_11 W_11 XA_11 XAk_11 XB_11 XBk_11 G_11
        clear oM tM
        obtain ⟨m0, hm0⟩ : ∃ m, 1 + wtK A = m := ⟨_, rfl⟩
        rw [hm0]
        have hp0 : 1 ≤ m0 ∧ m0 ≤ 1048578 := by omega
        clear hm0 hw0
        have y1 : w12.cell? ⟨w6.heap.size, 0, none⟩ = some (.slice pB B.length cB) := box_cell XBk_12.out 0
        have hw1 : wtK B ≤ 1048576 := HFB.out
        go_wp2_with fail
        refine (markMarks_k _ _ pB cB m0 B _ HFB.out (by omega) (by omega) XB_12.out).mono ?_
        rintro e w13 ⟨rfl, oM, tM⟩
        clear y1
        have s13 := tM.size
        have B_13 : Hid (Below w0.heap.size w0 w13) := B_12.out.trans (tM.below (by omega) B_12.out.size)
        have W_13 : Hid (Is w3.heap.size Wq V w13) := W_12.out.below (tM.below (by omega) (by omega))
        have XA_13 : Hid (OwnK w3.heap.size w4.heap.size pA (kmarks A 1) w13) := XA_12.out.out tM (by omega)
        have XAk_13 : Hid (w13.heap[w4.heap.size]? = some (.cells #[.slice pA A.length cA] 30)) := (tM.block _ (kboxS XAk_12.out) (by have := kboxS XAk_12.out; omega)).trans XAk_12.out
        have XB_13 : Hid (OwnK w5.heap.size w6.heap.size pB (kmarks B m0) w13) := oM
        have XBk_13 : Hid (w13.heap[w6.heap.size]? = some (.cells #[.slice pB B.length cB] 30)) := (tM.block _ (kboxS XBk_12.out) (by have := kboxS XBk_12.out; omega)).trans XBk_12.out
        have G_13 : Hid (OwnI w7.heap.size w8.heap.size Gq V w13) := G_12.out.out tM (by omega)
        clear B_12 W_12 XA_12 XAk_12 XB_12 XBk_12 G_12
        clear oM tM
        obtain ⟨m1, hm1⟩ : ∃ m, m0 + wtK B = m := ⟨_, rfl⟩
        rw [hm1]
        have hp1 : 1 ≤ m1 ∧ m1 ≤ 2097156 := by omega
        clear hm1 hw1
        have hmd : decide (((m1 : Nat) : Int) < 0) = false := decide_eq_false (by omega)
        go_wp2_with fail
        refine (eqIntS_same Gq Wq Gr Wr V _ HV.out G_13.out.is (W_13.out.mono (by omega))).mono ?_
        rintro e w14 ⟨rfl, gE⟩
        have s14 := gE.size
        have B_14 : Hid (Below w0.heap.size w0 w14) := B_13.out.trans (gE.mono B_13.out.size)
        have W_14 : Hid (Is w3.heap.size Wq V w14) := W_13.out.below (gE.mono (by omega))
        have XA_14 : Hid (OwnK w3.heap.size w4.heap.size pA (kmarks A 1) w14) := XA_13.out.on gE
        have XAk_14 : Hid (w14.heap[w4.heap.size]? = some (.cells #[.slice pA A.length cA] 30)) := (gE.block _ (kboxS XAk_13.out)).trans XAk_13.out
        have XB_14 : Hid (OwnK w5.heap.size w6.heap.size pB (kmarks B m0) w14) := XB_13.out.on gE
        have XBk_14 : Hid (w14.heap[w6.heap.size]? = some (.cells #[.slice pB B.length cB] 30)) := (gE.block _ (kboxS XBk_13.out)).trans XBk_13.out
        have G_14 : Hid (OwnI w7.heap.size w8.heap.size Gq V w14) := G_13.out.below gE
        clear B_13 W_13 XA_13 XAk_13 XB_13 XBk_13 G_13
        clear gE
        clear XA_14
        clear XB_14
        clear XAk_14
        clear XBk_14
        go_wp2_with fail
        refine (mark_ownI _ _ Gq Gr V _ HV.out 1 (Nat.le_refl _) (by omega) G_14.out).mono ?_
        rintro e w15 ⟨rfl, oM, tM⟩
        have s15 := tM.size
        have B_15 : Hid (Below w0.heap.size w0 w15) := B_14.out.trans (tM.below (by omega) B_14.out.size)
        have W_15 : Hid (Is w3.heap.size Wq V w15) := W_14.out.below (tM.below (by omega) (by omega))
        have G_15 : Hid (OwnI w7.heap.size w8.heap.size Gq (imarks V.length 1) w15) := oM
        clear B_14 W_14 G_14
        clear oM tM
        have hm2 : decide (((1 + V.length : Nat) : Int) < 0) = false := decide_eq_false (by omega)
        go_wp2_with fail
        refine (held_ownI _ _ Gq Gr V.length _ HV.out G_15.out).mono ?_
        rintro e w16 ⟨rfl, gH⟩
        have s16 := gH.size
        have B_16 : Hid (Below w0.heap.size w0 w16) := B_15.out.trans (gH.mono B_15.out.size)
        have W_16 : Hid (Is w3.heap.size Wq V w16) := W_15.out.below (gH.mono (by omega))
        have G_16 : Hid (OwnI w7.heap.size w8.heap.size Gq (imarks V.length 1) w16) := G_15.out.below gH
        clear B_15 W_15 G_15
        clear gH
        have BD : Below w16.heap.size w16 w16.drew := (Below.refl _ _).drew
        have HS : Hid (∀ v, Below w16.heap.size w16 v → v.cell? ⟨w.heap.size, 0, none⟩ = some (.slice a A.length c) ∧ v.cell? ⟨w.heap.size + 1, 0, none⟩ = some (.slice b B.length d)) := fun v g => HX.out v (B_16.out.trans (g.mono B_16.out.size))
        have HCA : Hid (∀ v, Below w16.heap.size w16 v → Calls Try.prog 11 #[.agg #[.slice a A.length c]] v fun e w' => ∃ b c, e = .returned (.agg #[.slice b A.length c]) ∧ Mr b c A w' ∧ Below v.heap.size v w') := fun v g => (HTA.out v (B_16.out.trans (g.mono B_16.out.size))).mono fun _ _ ⟨b, c, h1, h2, h3, h4⟩ => ⟨b, c, h1, ⟨HFA.out, h4, h2.ys⟩, h3⟩
        have HCB : Hid (∀ v, Below w16.heap.size w16 v → Calls Try.prog 11 #[.agg #[.slice b B.length d]] v fun e w' => ∃ b c, e = .returned (.agg #[.slice b B.length c]) ∧ Mr b c B w' ∧ Below v.heap.size v w') := fun v g => (HTB.out v (B_16.out.trans (g.mono B_16.out.size))).mono fun _ _ ⟨b, c, h1, h2, h3, h4⟩ => ⟨b, c, h1, ⟨HFB.out, h4, h2.ys⟩, h3⟩
        obtain ⟨xa, xb⟩ := HS.out _ BD
        go_wp2_with fail
        go_region_held (fun v => v.cell? ⟨w.heap.size, 0, none⟩ = some (.slice a A.length c) ∧ v.cell? ⟨w.heap.size + 1, 0, none⟩ = some (.slice b B.length d)) (first | exact HS.out _ (by with_reducible assumption)) (first | (go_at_call 11; refine (HCA.out _ (by with_reducible assumption)).mono ?_; rintro e wa ⟨ta, ca, rfl, oA, gA⟩; have BA : Below w16.heap.size w16 wa := BD.trans (gA.mono BD.size)) | (go_at_call 11; refine (HCB.out _ BA).mono ?_; rintro e wb ⟨tb, cb, rfl, oB, gB⟩; have BB : Below w16.heap.size w16 wb := BA.trans (gB.mono BA.size)) | (go_at_call 15; refine (H11.out _ _ _ _ _ (oA.on (by first | exact gB | exact (Below.refl _ _))) oB).mono ?_; rintro e w17 ⟨Qq, Qr, rfl, oC, gC⟩; have BC : Below w16.heap.size w16 w17 := BB.trans (gC.mono BB.size)))
        all_goals
          have OC := hid oC
          clear oC
          have gR := BC
          clear oA gA oB gB gC BA BB BC BD HS HCA HCB xa xb
          have s17 := gR.size
          have B_17 : Hid (Below w0.heap.size w0 w17) := B_16.out.trans (gR.mono B_16.out.size)
          have W_17 : Hid (Is w3.heap.size Wq V w17) := W_16.out.below (gR.mono (by omega))
          have G_17 : Hid (OwnI w7.heap.size w8.heap.size Gq (imarks V.length 1) w17) := G_16.out.below gR
          clear B_16 W_16 G_16
          have Q_17 : Hid (OwnI wb.heap.size w17.heap.size Qq V w17) := OC.out
          clear OC
          clear gR
          go_wp2_with fail
          refine (eqIntS_same Qq Wq Qr Wr V _ HV.out Q_17.out.is (W_17.out.mono (by omega))).mono ?_
          rintro e w18 ⟨rfl, gE⟩
          have s18 := gE.size
          have B_18 : Hid (Below w0.heap.size w0 w18) := B_17.out.trans (gE.mono B_17.out.size)
          have W_18 : Hid (Is w3.heap.size Wq V w18) := W_17.out.below (gE.mono (by omega))
          have G_18 : Hid (OwnI w7.heap.size w8.heap.size Gq (imarks V.length 1) w18) := G_17.out.below gE
          have Q_18 : Hid (OwnI wb.heap.size w17.heap.size Qq V w18) := Q_17.out.below gE
          clear B_17 W_17 G_17 Q_17
          clear gE
          go_wp2_with fail
          refine (held_ownI _ _ Gq Gr V.length _ HV.out G_18.out).mono ?_
          rintro e w19 ⟨rfl, gH⟩
          have s19 := gH.size
          have B_19 : Hid (Below w0.heap.size w0 w19) := B_18.out.trans (gH.mono B_18.out.size)
          have W_19 : Hid (Is w3.heap.size Wq V w19) := W_18.out.below (gH.mono (by omega))
          have G_19 : Hid (OwnI w7.heap.size w8.heap.size Gq (imarks V.length 1) w19) := G_18.out.below gH
          have Q_19 : Hid (OwnI wb.heap.size w17.heap.size Qq V w19) := Q_18.out.below gH
          clear B_18 W_18 G_18 Q_18
          clear gH
          go_wp2_with fail
          go_ret
          exact ⟨rfl, HB0.out.trans (B_19.out.mono HB0.out.size)⟩
theorem walk_PlanSync (a : Option Addr) (c : Nat) (A : List Ly) (b : Option Addr) (d : Nat) (B : List Ly) (m : Int) (w : World) (hnA : A.length ≤ 9223372036854775807) (hzA : ∀ s ∈ A, cntY s) (hGA : Ys w.heap.size a A w) (hnB : B.length ≤ 9223372036854775807) (hzB : ∀ s ∈ B, cntY s) (hGB : Ys w.heap.size b B w) (_hm : fit m) :
    Calls Try.prog 4 #[.agg #[.slice a A.length c], .agg #[.slice b B.length d], .int .i64 m] w fun e w' => e = .returned (.bool true) ∧ Below w.heap.size w w' :=
  law_PlanSync a c b d A B m w hnA hzA hGA hnB hzB hGB (fun _ _ => ⟨planV A B m, decide (PlanOk A B m), planV_len A B m, fun a c b d v h1 h2 => (splan_any a b c d A B m v h1 h2).mono fun _ _ ⟨q, r, h1, h2, h3⟩ => ⟨q, r, h1, h2.is, h3⟩, fun a c b d v h1 h2 => (iplan_any a b c d A B m v h1 h2).mono fun _ _ ⟨q, r, h1, h2, h3⟩ => ⟨q, r, h1, h2, h3⟩⟩)
end Go.Proofs.Ytiionfmpbifbcaa
