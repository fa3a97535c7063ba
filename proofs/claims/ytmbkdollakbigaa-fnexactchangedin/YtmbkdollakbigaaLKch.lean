/- The exact law of ChangedIn: its walk out of the contracts of the model and of the program. -/
import Derived.Test.YtmbkdollakbigaaKCi
import Derived.Test.YtmbkdollakbigaaKCs
import Derived.Test.YtmbkdollakbigaaKSz2
import Derived.Test.YtmbkdollakbigaaHA
import Derived.Deep.RegionHeld
namespace Go.Proofs.Ytmbkdollakbigaa
set_option maxRecDepth 100000
open Go Go.ChangeShapes Go.WideShapes Go.ChangeAt Go.RowKit
/-- function f answers so; what it answers can be read -/
def SaysChangedIn (f : Nat) (A : List Ly) (m : Int) (k : Int) (V : List Int) (x0 : Bool) : Prop := ∀ (a : Option Addr) (c : Nat) (v : World), Mr a c A v → Calls Try.prog f #[.agg #[.slice a A.length c], .int .i64 m, .int .i64 k] v fun e w' => ∃ q r, e = .returned (.tuple #[.slice q V.length r, .bool x0]) ∧ Is w'.heap.size q V w' ∧ Below v.heap.size v w'
/-- function f answers so, in memory of its own -/
def OwnsChangedIn (f : Nat) (A : List Ly) (m : Int) (k : Int) (V : List Int) (x0 : Bool) : Prop := ∀ (a : Option Addr) (c : Nat) (v : World), Mr a c A v → Calls Try.prog f #[.agg #[.slice a A.length c], .int .i64 m, .int .i64 k] v fun e w' => ∃ q r, e = .returned (.tuple #[.slice q V.length r, .bool x0]) ∧ OwnI v.heap.size w'.heap.size q V w' ∧ Below v.heap.size v w'
set_option maxHeartbeats 16000000 in
theorem law_ChangedIn (a : Option Addr) (c : Nat) (A : List Ly) (m : Int) (k : Int) (w : World) (hnA : A.length ≤ 9223372036854775807) (hzA : ∀ s ∈ A, cntY s) (hGA : Ys w.heap.size a A w)
    (H : FitK A → ∃ (V : List Int) (x0 : Bool), V.length ≤ 1048576 ∧ SaysChangedIn 6 A m k V x0 ∧ OwnsChangedIn 8 A m k V x0) :
    Calls Try.prog 3 #[.agg #[.slice a A.length c], .int .i64 m, .int .i64 k] w fun e w' => e = .returned (.bool true) ∧ Below w.heap.size w w' := by
  have HH : Hid (FitK A → ∃ (V : List Int) (x0 : Bool), V.length ≤ 1048576 ∧ SaysChangedIn 6 A m k V x0 ∧ OwnsChangedIn 8 A m k V x0) := H
  obtain ⟨w0, hw0⟩ : ∃ w0, w0 = w.alloc (.cells #[.slice a A.length c] 24) := ⟨_, rfl⟩
  have HB0 : Hid (Below w.heap.size w w0) := by show Below w.heap.size w w0; rw [hw0]; exact boxB _ _
  have k0 : w0.heap[w.heap.size]? = some (.cells #[.slice a A.length c] 24) := by rw [hw0]; exact heap_last _ _
  have HX : Hid (∀ v, Below w0.heap.size w0 v → v.cell? ⟨w.heap.size, 0, none⟩ = some (.slice a A.length c)) := fun v g => box_cell ((g.block _ (kboxS k0)).trans k0) 0
  have ss0 := kboxS k0
  have HZA : Hid (∀ v, Below w0.heap.size w0 v → Ys v.heap.size a A v) := fun v g => by
    have g' := HB0.out.trans (g.mono HB0.out.size)
    exact (hGA.below g').mono g'.size
  have HSZA : Hid (∀ (left : Int), 0 ≤ left → left ≤ 1048576 → ∀ v, Below w0.heap.size w0 v → Calls Try.prog 5 #[.agg #[.slice a A.length c], .int .i64 left] v fun e w' => (∃ r : Int, e = .returned (.int .i64 r) ∧ r ≤ left ∧ (0 ≤ r → FitK A)) ∧ Below v.heap.size v w') := fun left l0 l1 v g => szMarks_g a c A left v l0 l1 hnA hzA (HZA.out v g)
  have HTOA : Hid (FitK A → ∀ v, Below w0.heap.size w0 v → Calls Try.prog 7 #[.agg #[.slice a A.length c]] v fun e w' => ∃ b c, e = .returned (.agg #[.slice b A.length c]) ∧ OwnK v.heap.size w'.heap.size b A w' ∧ Below v.heap.size v w' ∧ A.length ≤ c) := fun f v g => toMarks_any a c A v f (HZA.out v g)
  have W0 : Hid (w0 = w.alloc (.cells #[.slice a A.length c] 24)) := hw0
  clear H hw0 k0 hGA hzA hnA
  have B_0 : Hid (Below w0.heap.size w0 w0) := Below.refl _ _
  go_enter Try.func3, Try.ntmps3
  go_wp2_with fail
  rw [← W0.out]
  refine (HSZA.out 1048576 (by decide) (Int.le_refl _) _ B_0.out).mono ?_
  rintro e w1 ⟨⟨r0, rfl, le0, hr0⟩, g0⟩
  have HR0 := hid hr0
  clear hr0 HSZA
  have s1 := g0.size
  have B_1 : Hid (Below w0.heap.size w0 w1) := B_0.out.trans (g0.mono B_0.out.size)
  clear B_0
  clear g0
  by_cases p0 : 0 ≤ r0
  case neg =>
    have hd0 : decide (r0 < 0) = true := decide_eq_true (by omega)
    clear HR0
    go_wp2_with fail
    go_ret
    exact ⟨rfl, HB0.out.trans (B_1.out.mono HB0.out.size)⟩
  have hd0 : decide (r0 < 0) = false := decide_eq_false (by omega)
  have HFA := hid (HR0.out p0)
  have HTA := hid (HTOA.out HFA.out)
  clear HR0 HTOA
  obtain ⟨V, x0, hV, h9, h11⟩ := HH.out HFA.out
  have H9 : Hid (SaysChangedIn 6 A m k V x0) := h9
  have H11 : Hid (OwnsChangedIn 8 A m k V x0) := h11
  have HV := hid hV
  clear h9 h11 HH hV
  have hkx0 : (x0 != x0) = false := by cases x0 <;> rfl
  have xa := HX.out _ B_1.out
  go_wp2_with fail
  refine (HTA.out _ B_1.out).mono ?_
  rintro e w2 ⟨tb, tc, rfl, oT, gT, kT⟩
  clear xa
  have s2 := gT.size
  have B_2 : Hid (Below w0.heap.size w0 w2) := B_1.out.trans (gT.mono B_1.out.size)
  clear B_1
  have CT : Hid (Mr tb tc A w2) := ⟨HFA.out, kT, oT.ys⟩
  clear oT gT kT
  go_wp2_with fail
  refine (H9.out _ _ _ CT.out).mono ?_
  rintro e w3 ⟨Wq, Wr, rfl, oC, gC⟩
  have s3 := gC.size
  have B_3 : Hid (Below w0.heap.size w0 w3) := B_2.out.trans (gC.mono B_2.out.size)
  clear B_2
  have W_3 : Hid (Is w3.heap.size Wq V w3) := oC
  clear oC gC
  clear CT
  clear H9
  have xa := HX.out _ B_3.out
  go_wp2_with fail
  refine (HTA.out _ B_3.out).mono ?_
  rintro e w4 ⟨pA, cA, rfl, oT, gT, kT⟩
  clear xa
  have s4 := gT.size
  have B_4 : Hid (Below w0.heap.size w0 w4) := B_3.out.trans (gT.mono B_3.out.size)
  have W_4 : Hid (Is w3.heap.size Wq V w4) := W_3.out.below (gT.mono (by omega))
  clear B_3 W_3
  have XA_4 : Hid (OwnK w3.heap.size w4.heap.size pA A w4) := oT
  have KTA := hid kT
  clear oT gT kT
  have gA := boxB w4 (.cells #[.slice pA A.length cA] 31)
  have hA := heap_last w4 (.cells #[.slice pA A.length cA] 31)
  have zA : (w4.alloc (.cells #[.slice pA A.length cA] 31)).heap.size = w4.heap.size + 1 := heap_size _ _
  generalize hW5 : w4.alloc (.cells #[.slice pA A.length cA] 31) = w5 at *
  have s5 := gA.size
  have B_5 : Hid (Below w0.heap.size w0 w5) := B_4.out.trans (gA.mono B_4.out.size)
  have W_5 : Hid (Is w3.heap.size Wq V w5) := W_4.out.below (gA.mono (by omega))
  have XA_5 : Hid (OwnK w3.heap.size w4.heap.size pA A w5) := XA_4.out.on gA
  clear B_4 W_4 XA_4
  have XAk_5 : Hid (w5.heap[w4.heap.size]? = some (.cells #[.slice pA A.length cA] 31)) := hA
  have zz5 := zA
  clear gA hA zA
  have yA : w5.cell? ⟨w4.heap.size, 0, none⟩ = some (.slice pA A.length cA) := box_cell XAk_5.out 0
  go_wp2_with fail
  refine (H11.out pA cA _ ⟨HFA.out, KTA.out, (XA_5.out.ys)⟩).mono ?_
  rintro e w6 ⟨Gq, Gr, rfl, oC, gC⟩
  have s6 := gC.size
  have B_6 : Hid (Below w0.heap.size w0 w6) := B_5.out.trans (gC.mono B_5.out.size)
  have W_6 : Hid (Is w3.heap.size Wq V w6) := W_5.out.below (gC.mono (by omega))
  have XA_6 : Hid (OwnK w3.heap.size w4.heap.size pA A w6) := XA_5.out.on gC
  have XAk_6 : Hid (w6.heap[w4.heap.size]? = some (.cells #[.slice pA A.length cA] 31)) := (gC.block _ (kboxS XAk_5.out)).trans XAk_5.out
  clear B_5 W_5 XA_5 XAk_5
  have G_6 : Hid (OwnI w5.heap.size w6.heap.size Gq V w6) := oC
  clear oC gC
  clear yA
  go_wp2_with fail
  refine (eqIntS_same Gq Wq Gr Wr V _ HV.out G_6.out.is (W_6.out.mono (by omega))).mono ?_
  rintro e w7 ⟨rfl, gE⟩
  have s7 := gE.size
  have B_7 : Hid (Below w0.heap.size w0 w7) := B_6.out.trans (gE.mono B_6.out.size)
  have W_7 : Hid (Is w3.heap.size Wq V w7) := W_6.out.below (gE.mono (by omega))
  have XA_7 : Hid (OwnK w3.heap.size w4.heap.size pA A w7) := XA_6.out.on gE
  have XAk_7 : Hid (w7.heap[w4.heap.size]? = some (.cells #[.slice pA A.length cA] 31)) := (gE.block _ (kboxS XAk_6.out)).trans XAk_6.out
  have G_7 : Hid (OwnI w5.heap.size w6.heap.size Gq V w7) := G_6.out.below gE
  clear B_6 W_6 XA_6 XAk_6 G_6
  clear gE
  try clear hW1 hW2 hW3 hW4 hW5 hW6 hW7
  have BD : Below w7.heap.size w7 w7.drew := (Below.refl _ _).drew
  have HS : Hid (∀ v, Below w7.heap.size w7 v → v.cell? ⟨w4.heap.size, 0, none⟩ = some (.slice pA A.length cA) ∧ v.cell? ⟨w.heap.size, 0, none⟩ = some (.slice a A.length c)) := fun v g => ⟨box_cell ((g.block _ (kboxS XAk_7.out)).trans XAk_7.out) 0, (HX.out v (B_7.out.trans (g.mono B_7.out.size)))⟩
  have HCd : Hid (∀ v, Below w7.heap.size w7 v → Calls Try.prog 7 #[.agg #[.slice a A.length c]] v fun e w' => ∃ b c, e = .returned (.agg #[.slice b A.length c]) ∧ OwnK v.heap.size w'.heap.size b A w' ∧ Below v.heap.size v w' ∧ A.length ≤ c) := fun v g => HTA.out v (B_7.out.trans (g.mono B_7.out.size))
  have HEQ : Hid (∀ v (b : Option Addr) (c : Nat), Below w7.heap.size w7 v → Ys v.heap.size b A v → Calls Try.prog 10 #[.agg #[.slice pA A.length cA], .agg #[.slice b A.length c]] v fun e w' => e = .returned (.bool true) ∧ Below v.heap.size v w') := fun v b c g h1 => eqMarks_same pA b cA c A v HFA.out (XA_7.out.on g).ys h1
  obtain ⟨z1, z2⟩ := HS.out _ BD
  have y1 : w7.cell? ⟨w4.heap.size, 0, none⟩ = some (.slice pA A.length cA) := box_cell XAk_7.out 0
  go_wp2_with fail
  go_region_held (fun v => v.cell? ⟨w4.heap.size, 0, none⟩ = some (.slice pA A.length cA) ∧ v.cell? ⟨w.heap.size, 0, none⟩ = some (.slice a A.length c)) (first | exact HS.out _ (by with_reducible assumption)) (first | (go_at_call 7; refine (HCd.out _ (by with_reducible assumption)).mono ?_; rintro e wa ⟨b7, c7, rfl, o7, g7, -⟩; have B7 : Below w7.heap.size w7 wa := BD.trans (g7.mono BD.size)) | (go_at_call 10; refine (HEQ.out _ _ _ B7 o7.ys).mono ?_; rintro e w8 ⟨rfl, g8⟩; have B8 : Below w7.heap.size w7 w8 := B7.trans (g8.mono B7.size)))
  all_goals
    have gR := B8
    clear o7 g7 g8 B7 B8 BD HS HCd HEQ z1 z2 y1
    have s8 := gR.size
    have B_8 : Hid (Below w0.heap.size w0 w8) := B_7.out.trans (gR.mono B_7.out.size)
    have W_8 : Hid (Is w3.heap.size Wq V w8) := W_7.out.below (gR.mono (by omega))
    have XA_8 : Hid (OwnK w3.heap.size w4.heap.size pA A w8) := XA_7.out.on gR
    have XAk_8 : Hid (w8.heap[w4.heap.size]? = some (.cells #[.slice pA A.length cA] 31)) := (gR.block _ (kboxS XAk_7.out)).trans XAk_7.out
    have G_8 : Hid (OwnI w5.heap.size w6.heap.size Gq V w8) := G_7.out.below gR
    clear B_7 W_7 XA_7 XAk_7 G_7
    clear gR
    have y1 : w8.cell? ⟨w4.heap.size, 0, none⟩ = some (.slice pA A.length cA) := box_cell XAk_8.out 0
    have hw0 : wtK A ≤ 1048576 := HFA.out
    go_wp2_with fail
    refine (markMarks_any _ _ pA cA A _ HFA.out XA_8.out).mono ?_
    rintro e w9 ⟨rfl, oM, tM⟩
    clear y1
    have s9 := tM.size
    have B_9 : Hid (Below w0.heap.size w0 w9) := B_8.out.trans (tM.below (by omega) B_8.out.size)
    have W_9 : Hid (Is w3.heap.size Wq V w9) := W_8.out.below (tM.below (by omega) (by omega))
    have XA_9 : Hid (OwnK w3.heap.size w4.heap.size pA (kmarks A 1) w9) := oM
    have XAk_9 : Hid (w9.heap[w4.heap.size]? = some (.cells #[.slice pA A.length cA] 31)) := (tM.block _ (kboxS XAk_8.out) (by have := kboxS XAk_8.out; omega)).trans XAk_8.out
    have G_9 : Hid (OwnI w5.heap.size w6.heap.size Gq V w9) := G_8.out.out tM (by omega)
    clear B_8 W_8 XA_8 XAk_8 G_8
    clear oM tM
    obtain ⟨m0, hm0⟩ : ∃ m, 1 + wtK A = m := ⟨_, rfl⟩
    rw [hm0]
    have hp0 : 1 ≤ m0 ∧ m0 ≤ 1048578 := by omega
    clear hm0 hw0
    have hmd : decide (((m0 : Nat) : Int) < 0) = false := decide_eq_false (by omega)
    go_wp2_with fail
    refine (eqIntS_same Gq Wq Gr Wr V _ HV.out G_9.out.is (W_9.out.mono (by omega))).mono ?_
    rintro e w10 ⟨rfl, gE⟩
    have s10 := gE.size
    have B_10 : Hid (Below w0.heap.size w0 w10) := B_9.out.trans (gE.mono B_9.out.size)
    have W_10 : Hid (Is w3.heap.size Wq V w10) := W_9.out.below (gE.mono (by omega))
    have XA_10 : Hid (OwnK w3.heap.size w4.heap.size pA (kmarks A 1) w10) := XA_9.out.on gE
    have XAk_10 : Hid (w10.heap[w4.heap.size]? = some (.cells #[.slice pA A.length cA] 31)) := (gE.block _ (kboxS XAk_9.out)).trans XAk_9.out
    have G_10 : Hid (OwnI w5.heap.size w6.heap.size Gq V w10) := G_9.out.below gE
    clear B_9 W_9 XA_9 XAk_9 G_9
    clear gE
    clear XA_10
    clear XAk_10
    go_wp2_with fail
    refine (mark_ownI _ _ Gq Gr V _ HV.out 1 (Nat.le_refl _) (by omega) G_10.out).mono ?_
    rintro e w11 ⟨rfl, oM, tM⟩
    have s11 := tM.size
    have B_11 : Hid (Below w0.heap.size w0 w11) := B_10.out.trans (tM.below (by omega) B_10.out.size)
    have W_11 : Hid (Is w3.heap.size Wq V w11) := W_10.out.below (tM.below (by omega) (by omega))
    have G_11 : Hid (OwnI w5.heap.size w6.heap.size Gq (imarks V.length 1) w11) := oM
    clear B_10 W_10 G_10
    clear oM tM
    have hm2 : decide (((1 + V.length : Nat) : Int) < 0) = false := decide_eq_false (by omega)
    go_wp2_with fail
    refine (held_ownI _ _ Gq Gr V.length _ HV.out G_11.out).mono ?_
    rintro e w12 ⟨rfl, gH⟩
    have s12 := gH.size
    have B_12 : Hid (Below w0.heap.size w0 w12) := B_11.out.trans (gH.mono B_11.out.size)
    have W_12 : Hid (Is w3.heap.size Wq V w12) := W_11.out.below (gH.mono (by omega))
    have G_12 : Hid (OwnI w5.heap.size w6.heap.size Gq (imarks V.length 1) w12) := G_11.out.below gH
    clear B_11 W_11 G_11
    clear gH
    have xa := HX.out _ B_12.out
    go_wp2_with fail
    refine (HTA.out _ B_12.out).mono ?_
    rintro e w13 ⟨tb, tc, rfl, oT, gT, kT⟩
    clear xa
    have s13 := gT.size
    have B_13 : Hid (Below w0.heap.size w0 w13) := B_12.out.trans (gT.mono B_12.out.size)
    have W_13 : Hid (Is w3.heap.size Wq V w13) := W_12.out.below (gT.mono (by omega))
    have G_13 : Hid (OwnI w5.heap.size w6.heap.size Gq (imarks V.length 1) w13) := G_12.out.below gT
    clear B_12 W_12 G_12
    have CT : Hid (Mr tb tc A w13) := ⟨HFA.out, kT, oT.ys⟩
    clear oT gT kT
    go_wp2_with fail
    refine (H11.out _ _ _ CT.out).mono ?_
    rintro e w14 ⟨Qq, Qr, rfl, oC, gC⟩
    have s14 := gC.size
    have B_14 : Hid (Below w0.heap.size w0 w14) := B_13.out.trans (gC.mono B_13.out.size)
    have W_14 : Hid (Is w3.heap.size Wq V w14) := W_13.out.below (gC.mono (by omega))
    have G_14 : Hid (OwnI w5.heap.size w6.heap.size Gq (imarks V.length 1) w14) := G_13.out.below gC
    clear B_13 W_13 G_13
    have Q_14 : Hid (OwnI w13.heap.size w14.heap.size Qq V w14) := oC
    clear oC gC
    clear CT
    go_wp2_with fail
    refine (eqIntS_same Qq Wq Qr Wr V _ HV.out Q_14.out.is (W_14.out.mono (by omega))).mono ?_
    rintro e w15 ⟨rfl, gE⟩
    have s15 := gE.size
    have B_15 : Hid (Below w0.heap.size w0 w15) := B_14.out.trans (gE.mono B_14.out.size)
    have W_15 : Hid (Is w3.heap.size Wq V w15) := W_14.out.below (gE.mono (by omega))
    have G_15 : Hid (OwnI w5.heap.size w6.heap.size Gq (imarks V.length 1) w15) := G_14.out.below gE
    have Q_15 : Hid (OwnI w13.heap.size w14.heap.size Qq V w15) := Q_14.out.below gE
    clear B_14 W_14 G_14 Q_14
    clear gE
    go_wp2_with fail
    refine (held_ownI _ _ Gq Gr V.length _ HV.out G_15.out).mono ?_
    rintro e w16 ⟨rfl, gH⟩
    have s16 := gH.size
    have B_16 : Hid (Below w0.heap.size w0 w16) := B_15.out.trans (gH.mono B_15.out.size)
    have W_16 : Hid (Is w3.heap.size Wq V w16) := W_15.out.below (gH.mono (by omega))
    have G_16 : Hid (OwnI w5.heap.size w6.heap.size Gq (imarks V.length 1) w16) := G_15.out.below gH
    have Q_16 : Hid (OwnI w13.heap.size w14.heap.size Qq V w16) := Q_15.out.below gH
    clear B_15 W_15 G_15 Q_15
    clear gH
    go_wp2_with fail
    go_ret
    exact ⟨rfl, HB0.out.trans (B_16.out.mono HB0.out.size)⟩
theorem walk_ChangedIn (a : Option Addr) (c : Nat) (A : List Ly) (m : Int) (k : Int) (w : World) (hnA : A.length ≤ 9223372036854775807) (hzA : ∀ s ∈ A, cntY s) (hGA : Ys w.heap.size a A w) (_hm : fit m) (_hk : fit k) :
    Calls Try.prog 3 #[.agg #[.slice a A.length c], .int .i64 m, .int .i64 k] w fun e w' => e = .returned (.bool true) ∧ Below w.heap.size w w' :=
  law_ChangedIn a c A m k w hnA hzA hGA (fun _ => ⟨chgV A m k, decide (ChgOk A m k), Nat.le_trans (chgV_len A m k) (by decide), fun a c v h1 => (schg_any a c A m k v h1).mono fun _ _ ⟨q, r, h1, h2, h3⟩ => ⟨q, r, h1, h2.is, h3⟩, fun a c v h1 => (ichg_any a c A m k v h1).mono fun _ _ ⟨q, r, h1, h2, h3⟩ => ⟨q, r, h1, h2, h3⟩⟩)
end Go.Proofs.Ytmbkdollakbigaa
