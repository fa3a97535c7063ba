/- The exact law of CommonMark: its walk out of the contracts of the model and of the program. -/
import Derived.Test.YtiionfmpbifbcaaSyCi
import Derived.Test.YtiionfmpbifbcaaKSz2
import Derived.Test.YtiionfmpbifbcaaHA
import Derived.Deep.RegionHeld
namespace Go.Proofs.Ytiionfmpbifbcaa
set_option maxRecDepth 100000
open Go Go.ChangeShapes Go.WideShapes Go.ChangeAt Go.RowKit
/-- function f answers so; what it answers can be read -/
def SaysCommonMark (f : Nat) (A : List Ly) (B : List Ly) (n0 : Int) (x1 : Bool) : Prop := ∀ (a : Option Addr) (c : Nat) (b : Option Addr) (d : Nat) (v : World), Mr a c A v → Mr b d B v → Calls Try.prog f #[.agg #[.slice a A.length c], .agg #[.slice b B.length d]] v fun e w' => e = .returned (.tuple #[.int .i64 n0, .bool x1]) ∧ Below v.heap.size v w'
set_option maxHeartbeats 16000000 in
theorem law_CommonMark (a : Option Addr) (c : Nat) (b : Option Addr) (d : Nat) (A : List Ly) (B : List Ly) (w : World) (hnA : A.length ≤ 9223372036854775807) (hzA : ∀ s ∈ A, cntY s) (hGA : Ys w.heap.size a A w) (hnB : B.length ≤ 9223372036854775807) (hzB : ∀ s ∈ B, cntY s) (hGB : Ys w.heap.size b B w)
    (H : FitK A → FitK B → ∃ (n0 : Int) (x1 : Bool), SaysCommonMark 30 A B n0 x1 ∧ SaysCommonMark 31 A B n0 x1) :
    Calls Try.prog 8 #[.agg #[.slice a A.length c], .agg #[.slice b B.length d]] w fun e w' => e = .returned (.bool true) ∧ Below w.heap.size w w' := by
  have HH : Hid (FitK A → FitK B → ∃ (n0 : Int) (x1 : Bool), SaysCommonMark 30 A B n0 x1 ∧ SaysCommonMark 31 A B n0 x1) := H
  obtain ⟨w0, hw0⟩ : ∃ w0, w0 = (w.alloc (.cells #[.slice a A.length c] 24)).alloc (.cells #[.slice b B.length d] 24) := ⟨_, rfl⟩
  have HB0 : Hid (Below w.heap.size w w0) := by show Below w.heap.size w w0; rw [hw0]; exact (boxB _ _).trans ((boxB _ _).mono (boxB _ _).size)
  have k0 : w0.heap[w.heap.size]? = some (.cells #[.slice a A.length c] 24) := by rw [hw0]; exact heap_mid2 _ _ _
  have k1 : w0.heap[w.heap.size + 1]? = some (.cells #[.slice b B.length d] 24) := by rw [hw0]; exact heap_last2 _ _ _
  have HX : Hid (∀ v, Below w0.heap.size w0 v → v.cell? ⟨w.heap.size, 0, none⟩ = some (.slice a A.length c) ∧ v.cell? ⟨w.heap.size + 1, 0, none⟩ = some (.slice b B.length d)) := fun v g => ⟨box_cell ((g.block _ (kboxS k0)).trans k0) 0, box_cell ((g.block _ (kboxS k1)).trans k1) 0⟩
  have ss0 := kboxS k1
  have HZA : Hid (∀ v, Below w0.heap.size w0 v → Ys v.heap.size a A v) := fun v g => by
    have g' := HB0.out.trans (g.mono HB0.out.size)
    exact (hGA.below g').mono g'.size
  have HSZA : Hid (∀ (left : Int), 0 ≤ left → left ≤ 1048576 → ∀ v, Below w0.heap.size w0 v → Calls Try.prog 9 #[.agg #[.slice a A.length c], .int .i64 left] v fun e w' => (∃ r : Int, e = .returned (.int .i64 r) ∧ r ≤ left ∧ (0 ≤ r → FitK A)) ∧ Below v.heap.size v w') := fun left l0 l1 v g => szMarks_g a c A left v l0 l1 hnA hzA (HZA.out v g)
  have HTOA : Hid (FitK A → ∀ v, Below w0.heap.size w0 v → Calls Try.prog 11 #[.agg #[.slice a A.length c]] v fun e w' => ∃ b c, e = .returned (.agg #[.slice b A.length c]) ∧ OwnK v.heap.size w'.heap.size b A w' ∧ Below v.heap.size v w' ∧ A.length ≤ c) := fun f v g => toMarks_any a c A v f (HZA.out v g)
  have HZB : Hid (∀ v, Below w0.heap.size w0 v → Ys v.heap.size b B v) := fun v g => by
    have g' := HB0.out.trans (g.mono HB0.out.size)
    exact (hGB.below g').mono g'.size
  have HSZB : Hid (∀ (left : Int), 0 ≤ left → left ≤ 1048576 → ∀ v, Below w0.heap.size w0 v → Calls Try.prog 9 #[.agg #[.slice b B.length d], .int .i64 left] v fun e w' => (∃ r : Int, e = .returned (.int .i64 r) ∧ r ≤ left ∧ (0 ≤ r → FitK B)) ∧ Below v.heap.size v w') := fun left l0 l1 v g => szMarks_g b d B left v l0 l1 hnB hzB (HZB.out v g)
  have HTOB : Hid (FitK B → ∀ v, Below w0.heap.size w0 v → Calls Try.prog 11 #[.agg #[.slice b B.length d]] v fun e w' => ∃ b c, e = .returned (.agg #[.slice b B.length c]) ∧ OwnK v.heap.size w'.heap.size b B w' ∧ Below v.heap.size v w' ∧ B.length ≤ c) := fun f v g => toMarks_any b d B v f (HZB.out v g)
  have W0 : Hid (w0 = (w.alloc (.cells #[.slice a A.length c] 24)).alloc (.cells #[.slice b B.length d] 24)) := hw0
  clear H hw0 k0 k1 hGA hzA hnA hGB hzB hnB
  have B_0 : Hid (Below w0.heap.size w0 w0) := Below.refl _ _
  go_enter Try.func8, Try.ntmps8
  go_wp2_with fail
  rw [← W0.out]
  refine (HSZA.out 1048576 (by decide) (Int.le_refl _) _ B_0.out).mono ?_
  rintro e w1 ⟨⟨r0, rfl, le0, hr0⟩, g0⟩
  have HR0 := hid hr0
  clear hr0 HSZA
  have s1 := g0.size
  have B_1 : Hid (Below w0.heap.size w0 w1) := B_0.out.trans (g0.mono B_0.out.size)
  clear B_0
  clear g0
  by_cases p0 : 0 ≤ r0
  case neg =>
    have hd0 : decide (r0 < 0) = true := decide_eq_true (by omega)
    clear HR0
    go_wp2_with fail
    go_ret
    exact ⟨rfl, HB0.out.trans (B_1.out.mono HB0.out.size)⟩
  have hd0 : decide (r0 < 0) = false := decide_eq_false (by omega)
  have HFA := hid (HR0.out p0)
  have HTA := hid (HTOA.out HFA.out)
  clear HR0 HTOA
  obtain ⟨xa, xb⟩ := HX.out _ B_1.out
  go_wp2_with fail
  refine (HSZB.out r0 p0 (by omega) _ B_1.out).mono ?_
  rintro e w2 ⟨⟨r1, rfl, le1, hr1⟩, g1⟩
  have HR1 := hid hr1
  clear hr1 HSZB xa xb
  have s2 := g1.size
  have B_2 : Hid (Below w0.heap.size w0 w2) := B_1.out.trans (g1.mono B_1.out.size)
  clear B_1
  clear g1
  by_cases p1 : 0 ≤ r1
  case neg =>
    have hd1 : decide (r1 < 0) = true := decide_eq_true (by omega)
    clear HR1
    go_wp2_with fail
    go_ret
    exact ⟨rfl, HB0.out.trans (B_2.out.mono HB0.out.size)⟩
  have hd1 : decide (r1 < 0) = false := decide_eq_false (by omega)
  have HFB := hid (HR1.out p1)
  have HTB := hid (HTOB.out HFB.out)
  clear HR1 HTOB
  obtain ⟨n0, x1, h9, h11⟩ := HH.out HFA.out HFB.out
  have H9 : Hid (SaysCommonMark 30 A B n0 x1) := h9
  have H11 : Hid (SaysCommonMark 31 A B n0 x1) := h11
  clear h9 h11 HH
  have hkn0 : (n0 != n0) = false := bne_self_eq_false n0
  have hkx1 : (x1 != x1) = false := by cases x1 <;> rfl
  have BD : Below w2.heap.size w2 w2.drew := (Below.refl _ _).drew
  have HS : Hid (∀ v, Below w2.heap.size w2 v → v.cell? ⟨w.heap.size, 0, none⟩ = some (.slice a A.length c) ∧ v.cell? ⟨w.heap.size + 1, 0, none⟩ = some (.slice b B.length d)) := fun v g => HX.out v (B_2.out.trans (g.mono B_2.out.size))
  have HCA : Hid (∀ v, Below w2.heap.size w2 v → Calls Try.prog 11 #[.agg #[.slice a A.length c]] v fun e w' => ∃ b c, e = .returned (.agg #[.slice b A.length c]) ∧ Mr b c A w' ∧ Below v.heap.size v w') := fun v g => (HTA.out v (B_2.out.trans (g.mono B_2.out.size))).mono fun _ _ ⟨b, c, h1, h2, h3, h4⟩ => ⟨b, c, h1, ⟨HFA.out, h4, h2.ys⟩, h3⟩
  have HCB : Hid (∀ v, Below w2.heap.size w2 v → Calls Try.prog 11 #[.agg #[.slice b B.length d]] v fun e w' => ∃ b c, e = .returned (.agg #[.slice b B.length c]) ∧ Mr b c B w' ∧ Below v.heap.size v w') := fun v g => (HTB.out v (B_2.out.trans (g.mono B_2.out.size))).mono fun _ _ ⟨b, c, h1, h2, h3, h4⟩ => ⟨b, c, h1, ⟨HFB.out, h4, h2.ys⟩, h3⟩
  obtain ⟨xa, xb⟩ := HS.out _ BD
  go_wp2_with fail
  go_region_held (fun v => v.cell? ⟨w.heap.size, 0, none⟩ = some (.slice a A.length c) ∧ v.cell? ⟨w.heap.size + 1, 0, none⟩ = some (.slice b B.length d)) (first | exact HS.out _ (by with_reducible assumption)) (first | (go_at_call 11; refine (HCA.out _ (by with_reducible assumption)).mono ?_; rintro e wa ⟨ta, ca, rfl, oA, gA⟩; have BA : Below w2.heap.size w2 wa := BD.trans (gA.mono BD.size)) | (go_at_call 11; refine (HCB.out _ BA).mono ?_; rintro e wb ⟨tb, cb, rfl, oB, gB⟩; have BB : Below w2.heap.size w2 wb := BA.trans (gB.mono BA.size)) | (go_at_call 30; refine (H9.out _ _ _ _ _ (oA.on (by first | exact gB | exact (Below.refl _ _))) oB).mono ?_; rintro e w3 ⟨rfl, gC⟩; have BC : Below w2.heap.size w2 w3 := BB.trans (gC.mono BB.size)))
  all_goals
    have gR := BC
    clear oA gA oB gB gC BA BB BC BD HS HCA HCB xa xb
    have s3 := gR.size
    have B_3 : Hid (Below w0.heap.size w0 w3) := B_2.out.trans (gR.mono B_2.out.size)
    clear B_2
    clear gR
    clear H9
    obtain ⟨xa, xb⟩ := HX.out _ B_3.out
    go_wp2_with fail
    refine (HTA.out _ B_3.out).mono ?_
    rintro e w4 ⟨pA, cA, rfl, oT, gT, kT⟩
    clear xa xb
    have s4 := gT.size
    have B_4 : Hid (Below w0.heap.size w0 w4) := B_3.out.trans (gT.mono B_3.out.size)
    clear B_3
    have XA_4 : Hid (OwnK w3.heap.size w4.heap.size pA A w4) := oT
    have KTA := hid kT
    clear oT gT kT
    have gA := boxB w4 (.cells #[.slice pA A.length cA] 30)
    have hA := heap_last w4 (.cells #[.slice pA A.length cA] 30)
    have zA : (w4.alloc (.cells #[.slice pA A.length cA] 30)).heap.size = w4.heap.size + 1 := heap_size _ _
    generalize hW5 : w4.alloc (.cells #[.slice pA A.length cA] 30) = w5 at *
    have s5 := gA.size
    have B_5 : Hid (Below w0.heap.size w0 w5) := B_4.out.trans (gA.mono B_4.out.size)
    have XA_5 : Hid (OwnK w3.heap.size w4.heap.size pA A w5) := XA_4.out.on gA
    clear B_4 XA_4
    have XAk_5 : Hid (w5.heap[w4.heap.size]? = some (.cells #[.slice pA A.length cA] 30)) := hA
    have zz5 := zA
    clear gA hA zA
    obtain ⟨xa, xb⟩ := HX.out _ B_5.out
    go_wp2_with fail
    refine (HTB.out _ B_5.out).mono ?_
    rintro e w6 ⟨pB, cB, rfl, oT, gT, kT⟩
    clear xa xb
    have s6 := gT.size
    have B_6 : Hid (Below w0.heap.size w0 w6) := B_5.out.trans (gT.mono B_5.out.size)
    have XA_6 : Hid (OwnK w3.heap.size w4.heap.size pA A w6) := XA_5.out.on gT
    have XAk_6 : Hid (w6.heap[w4.heap.size]? = some (.cells #[.slice pA A.length cA] 30)) := (gT.block _ (kboxS XAk_5.out)).trans XAk_5.out
    clear B_5 XA_5 XAk_5
    have XB_6 : Hid (OwnK w5.heap.size w6.heap.size pB B w6) := oT
    have KTB := hid kT
    clear oT gT kT
    have gA := boxB w6 (.cells #[.slice pB B.length cB] 30)
    have hA := heap_last w6 (.cells #[.slice pB B.length cB] 30)
    have zA : (w6.alloc (.cells #[.slice pB B.length cB] 30)).heap.size = w6.heap.size + 1 := heap_size _ _
    generalize hW7 : w6.alloc (.cells #[.slice pB B.length cB] 30) = w7 at *
    have s7 := gA.size
    have B_7 : Hid (Below w0.heap.size w0 w7) := B_6.out.trans (gA.mono B_6.out.size)
    have XA_7 : Hid (OwnK w3.heap.size w4.heap.size pA A w7) := XA_6.out.on gA
    have XAk_7 : Hid (w7.heap[w4.heap.size]? = some (.cells #[.slice pA A.length cA] 30)) := (gA.block _ (kboxS XAk_6.out)).trans XAk_6.out
    have XB_7 : Hid (OwnK w5.heap.size w6.heap.size pB B w7) := XB_6.out.on gA
    clear B_6 XA_6 XAk_6 XB_6
    have XBk_7 : Hid (w7.heap[w6.heap.size]? = some (.cells #[.slice pB B.length cB] 30)) := hA
    have zz7 := zA
    clear gA hA zA
    have yA : w7.cell? ⟨w4.heap.size, 0, none⟩ = some (.slice pA A.length cA) := box_cell XAk_7.out 0
    have yB : w7.cell? ⟨w6.heap.size, 0, none⟩ = some (.slice pB B.length cB) := box_cell XBk_7.out 0
    go_wp2_with fail
    refine (H11.out pA cA pB cB _ ⟨HFA.out, KTA.out, (XA_7.out.ys)⟩ ⟨HFB.out, KTB.out, (XB_7.out.ys)⟩).mono ?_
    rintro e w8 ⟨rfl, gC⟩
    have s8 := gC.size
    have B_8 : Hid (Below w0.heap.size w0 w8) := B_7.out.trans (gC.mono B_7.out.size)
    have XA_8 : Hid (OwnK w3.heap.size w4.heap.size pA A w8) := XA_7.out.on gC
    have XAk_8 : Hid (w8.heap[w4.heap.size]? = some (.cells #[.slice pA A.length cA] 30)) := (gC.block _ (kboxS XAk_7.out)).trans XAk_7.out
    have XB_8 : Hid (OwnK w5.heap.size w6.heap.size pB B w8) := XB_7.out.on gC
    have XBk_8 : Hid (w8.heap[w6.heap.size]? = some (.cells #[.slice pB B.length cB] 30)) := (gC.block _ (kboxS XBk_7.out)).trans XBk_7.out
    clear B_7 XA_7 XAk_7 XB_7 XBk_7
    clear gC
    clear yA yB
    try clear hW1 hW2 hW3 hW4 hW5 hW6 hW7 hW8
    have BD : Below w8.heap.size w8 w8.drew := (Below.refl _ _).drew
    have HS : Hid (∀ v, Below w8.heap.size w8 v → v.cell? ⟨w4.heap.size, 0, none⟩ = some (.slice pA A.length cA) ∧ v.cell? ⟨w.heap.size, 0, none⟩ = some (.slice a A.length c)) := fun v g => ⟨box_cell ((g.block _ (kboxS XAk_8.out)).trans XAk_8.out) 0, (HX.out v (B_8.out.trans (g.mono B_8.out.size))).1⟩
    have HCd : Hid (∀ v, Below w8.heap.size w8 v → Calls Try.prog 11 #[.agg #[.slice a A.length c]] v fun e w' => ∃ b c, e = .returned (.agg #[.slice b A.length c]) ∧ OwnK v.heap.size w'.heap.size b A w' ∧ Below v.heap.size v w' ∧ A.length ≤ c) := fun v g => HTA.out v (B_8.out.trans (g.mono B_8.out.size))
    have HEQ : Hid (∀ v (b : Option Addr) (c : Nat), Below w8.heap.size w8 v → Ys v.heap.size b A v → Calls Try.prog 13 #[.agg #[.slice pA A.length cA], .agg #[.slice b A.length c]] v fun e w' => e = .returned (.bool true) ∧ Below v.heap.size v w') := fun v b c g h1 => eqMarks_same pA b cA c A v HFA.out (XA_8.out.on g).ys h1
    obtain ⟨z1, z2⟩ := HS.out _ BD
    have y1 : w8.cell? ⟨w4.heap.size, 0, none⟩ = some (.slice pA A.length cA) := box_cell XAk_8.out 0
    go_wp2_with fail
    go_region_held (fun v => v.cell? ⟨w4.heap.size, 0, none⟩ = some (.slice pA A.length cA) ∧ v.cell? ⟨w.heap.size, 0, none⟩ = some (.slice a A.length c)) (first | exact HS.out _ (by with_reducible assumption)) (first | (go_at_call 11; refine (HCd.out _ (by with_reducible assumption)).mono ?_; rintro e wa ⟨b7, c7, rfl, o7, g7, -⟩; have B7 : Below w8.heap.size w8 wa := BD.trans (g7.mono BD.size)) | (go_at_call 13; refine (HEQ.out _ _ _ B7 o7.ys).mono ?_; rintro e w9 ⟨rfl, g8⟩; have B8 : Below w8.heap.size w8 w9 := B7.trans (g8.mono B7.size)))
    all_goals
      have gR := B8
      clear o7 g7 g8 B7 B8 BD HS HCd HEQ z1 z2 y1
      have s9 := gR.size
      have B_9 : Hid (Below w0.heap.size w0 w9) := B_8.out.trans (gR.mono B_8.out.size)
      have XA_9 : Hid (OwnK w3.heap.size w4.heap.size pA A w9) := XA_8.out.on gR
      have XAk_9 : Hid (w9.heap[w4.heap.size]? = some (.cells #[.slice pA A.length cA] 30)) := (gR.block _ (kboxS XAk_8.out)).trans XAk_8.out
      have XB_9 : Hid (OwnK w5.heap.size w6.heap.size pB B w9) := XB_8.out.on gR
      have XBk_9 : Hid (w9.heap[w6.heap.size]? = some (.cells #[.slice pB B.length cB] 30)) := (gR.block _ (kboxS XBk_8.out)).trans XBk_8.out
      clear B_8 XA_8 XAk_8 XB_8 XBk_8
      clear gR
      have BD : Below w9.heap.size w9 w9.drew := (Below.refl _ _).drew
      have HS : Hid (∀ v, Below w9.heap.size w9 v → v.cell? ⟨w6.heap.size, 0, none⟩ = some (.slice pB B.length cB) ∧ v.cell? ⟨w.heap.size + 1, 0, none⟩ = some (.slice b B.length d)) := fun v g => ⟨box_cell ((g.block _ (kboxS XBk_9.out)).trans XBk_9.out) 0, (HX.out v (B_9.out.trans (g.mono B_9.out.size))).2⟩
      have HCd : Hid (∀ v, Below w9.heap.size w9 v → Calls Try.prog 11 #[.agg #[.slice b B.length d]] v fun e w' => ∃ b c, e = .returned (.agg #[.slice b B.length c]) ∧ OwnK v.heap.size w'.heap.size b B w' ∧ Below v.heap.size v w' ∧ B.length ≤ c) := fun v g => HTB.out v (B_9.out.trans (g.mono B_9.out.size))
      have HEQ : Hid (∀ v (b : Option Addr) (c : Nat), Below w9.heap.size w9 v → Ys v.heap.size b B v → Calls Try.prog 13 #[.agg #[.slice pB B.length cB], .agg #[.slice b B.length c]] v fun e w' => e = .returned (.bool true) ∧ Below v.heap.size v w') := fun v b c g h1 => eqMarks_same pB b cB c B v HFB.out (XB_9.out.on g).ys h1
      obtain ⟨z1, z2⟩ := HS.out _ BD
      have y1 : w9.cell? ⟨w6.heap.size, 0, none⟩ = some (.slice pB B.length cB) := box_cell XBk_9.out 0
      go_wp2_with fail
      go_region_held (fun v => v.cell? ⟨w6.heap.size, 0, none⟩ = some (.slice pB B.length cB) ∧ v.cell? ⟨w.heap.size + 1, 0, none⟩ = some (.slice b B.length d)) (first | exact HS.out _ (by with_reducible assumption)) (first | (go_at_call 11; refine (HCd.out _ (by with_reducible assumption)).mono ?_; rintro e wa ⟨b7, c7, rfl, o7, g7, -⟩; have B7 : Below w9.heap.size w9 wa := BD.trans (g7.mono BD.size)) | (go_at_call 13; refine (HEQ.out _ _ _ B7 o7.ys).mono ?_; rintro e w10 ⟨rfl, g8⟩; have B8 : Below w9.heap.size w9 w10 := B7.trans (g8.mono B7.size)))
      all_goals
        have gR := B8
        clear o7 g7 g8 B7 B8 BD HS HCd HEQ z1 z2 y1
        have s10 := gR.size
        have B_10 : Hid (Below w0.heap.size w0 w10) := B_9.out.trans (gR.mono B_9.out.size)
        have XA_10 : Hid (OwnK w3.heap.size w4.heap.size pA A w10) := XA_9.out.on gR
        have XAk_10 : Hid (w10.heap[w4.heap.size]? = some (.cells #[.slice pA A.length cA] 30)) := (gR.block _ (kboxS XAk_9.out)).trans XAk_9.out
        have XB_10 : Hid (OwnK w5.heap.size w6.heap.size pB B w10) := XB_9.out.on gR
        have XBk_10 : Hid (w10.heap[w6.heap.size]? = some (.cells #[.slice pB B.length cB] 30)) := (gR.block _ (kboxS XBk_9.out)).trans XBk_9.out
        clear B_9 XA_9 XAk_9 XB_9 XBk_9
        clear gR
        go_wp2_with fail
        go_ret
        exact ⟨rfl, HB0.out.trans (B_10.out.mono HB0.out.size)⟩
theorem walk_CommonMark (a : Option Addr) (c : Nat) (A : List Ly) (b : Option Addr) (d : Nat) (B : List Ly) (w : World) (hnA : A.length ≤ 9223372036854775807) (hzA : ∀ s ∈ A, cntY s) (hGA : Ys w.heap.size a A w) (hnB : B.length ≤ 9223372036854775807) (hzB : ∀ s ∈ B, cntY s) (hGB : Ys w.heap.size b B w) :
    Calls Try.prog 8 #[.agg #[.slice a A.length c], .agg #[.slice b B.length d]] w fun e w' => e = .returned (.bool true) ∧ Below w.heap.size w w' :=
  law_CommonMark a c b d A B w hnA hzA hGA hnB hzB hGB (fun _ _ => ⟨comV A B, comOk A B, fun a c b d v h1 h2 => scommon_any a b c d A B v h1 h2, fun a c b d v h1 h2 => icommon_any a b c d A B v h1 h2⟩)
end Go.Proofs.Ytiionfmpbifbcaa
