/- The law on records and segments: its walk out of the contracts. -/
import Derived.Test.YthoeffbefmhkjaaDoorLRecA
import Derived.Deep.DeepCutAuto
import Derived.Deep.RegionHeld
namespace Go.Proofs.YthoeffbefmhkjaaDoor
set_option maxRecDepth 100000
open Go.ChangeShapes Go.WideShapes Go.ChangeAt Go.RowKit G00541
/-- a record that lies at block X -/
structure RC (X : Nat) (k p n : Int) (D : ByteArray) (v : World) : Prop where
  lt : X < v.heap.size
  c0 : v.cell? ⟨X, 0, none⟩ = some (.int .i64 k)
  c1 : v.cell? ⟨X, 1, none⟩ = some (.int .i64 p)
  c2 : v.cell? ⟨X, 2, none⟩ = some (.int .i64 n)
  c3 : v.cell? ⟨X, 3, none⟩ = some (.string D)
theorem RC.below {X : Nat} {k p n : Int} {D : ByteArray} {v v' : World} (h : RC X k p n D v) (g : Below v.heap.size v v') : RC X k p n D v' := by
  have x := fun i => g.cell (p := ⟨X, i, none⟩) h.lt
  exact ⟨Nat.lt_of_lt_of_le h.lt g.size, (x 0).trans h.c0, (x 1).trans h.c1, (x 2).trans h.c2, (x 3).trans h.c3⟩
theorem RC.drew {X : Nat} {k p n : Int} {D : ByteArray} {v : World} (h : RC X k p n D v) : RC X k p n D v.drew := ⟨h.lt, h.c0, h.c1, h.c2, h.c3⟩
theorem RC.made (k p n : Int) (D : ByteArray) (v : World) (T : TypeId) : RC v.heap.size k p n D (v.alloc (.cells #[.int .i64 k, .int .i64 p, .int .i64 n, .string D] T)) :=
  ⟨by simp, by go_simp, by go_simp, by go_simp, by go_simp⟩
set_option maxHeartbeats 8000000 in
theorem records_small (l1 c1 l2 c2 : Nat) (a1 a2 : Option Addr) (w : World) (hT : Tab w) (h12 : l1 + l2 ≤ 1048576) (hK1 : Code w.heap.size l1 c1 a1 w) (hK2 : Code w.heap.size l2 c2 a2 w) :
    Calls Tryd.prog 3 #[.slice a1 l1 c1, .slice a2 l2 c2] w fun e w' => e = .returned (.bool true) ∧ Below w.heap.size w w' := by
  have hd : decide ((1048576 : Int) < (l1 : Int) + (l2 : Int)) = false := by simp; omega
  have HK1 : Hid (Code w.heap.size l1 c1 a1 w) := hK1
  have HK2 : Hid (∀ v, Below w.heap.size w v → Code v.heap.size l2 c2 a2 v) := fun v g => (hK2.below g).mono g.size
  have HT : Hid (∀ v, Below w.heap.size w v → Tab v) := fun v g => hT.below g
  have HTW : Hid (Tab w) := hT
  clear hK1 hK2 hT
  go_enter Tryd.func3, Tryd.ntmps3
  go_wp2_with fail
  refine (drawSegmentText_any l1 c1 a1 _ HK1.out).mono ?_
  rintro e w1 ⟨l, b, c, rfl, hl, hlc, _, ho, g1⟩
  have HR : Hid (∀ v, Below w1.heap.size w1 v → Rs v.heap.size b l v) := fun v g => (ho.rs.below g).mono g.size
  have HB1 : Hid (Below w.heap.size w w1) := g1
  clear ho g1 HK1
  go_wp2_with fail
  refine (iseg_any b c l _ (HT.out _ HB1.out) (by omega) (HR.out _ (Below.refl _ _))).mono ?_
  rintro e w2 ⟨rfl, g2⟩
  have HC2 : Hid (Below w1.heap.size w1 w2) := g2
  clear g2
  have HS : Hid (segOk l = true → TellsSeg 8 (segV l) l ((segV l).size : Int) true (fun v => Below w.heap.size w v)) := fun h => seg_back l h w HTW.out
  have HTB : Hid (segOk l = true → ∀ q : Nat, q ≤ (segV l).size → ∃ (X : ByteArray) (V : List Rc) (p : Int), V.length ≤ l.length ∧ l.take V.length = V ∧
    (∀ w, Tab w → Calls Tryd.prog 9 #[.string (segV l), .int .i64 q] w fun e w' => e = .returned (.tuple #[.string X, .bool true]) ∧ Below w.heap.size w w') ∧
    (∀ w, Tab w → TellsSeg 8 X V p true (fun v => Below w.heap.size w v))) := fun h q hq => torn_back l h q hq
  have HSP : Hid (Calls Tryd.prog 7 #[.slice b l.length c] w2 fun e w' => e = .returned (.tuple #[.string (segV l), .bool (segOk l)]) ∧ Below w2.heap.size w2 w') := sseg_any b c l _ (by omega) (HR.out _ HC2.out)
  have hsz := segV_le l
  generalize segV l = S at *
  generalize segOk l = ok at *
  go_wp2_with fail
  refine HSP.out.mono ?_
  rintro e w3 ⟨rfl, g3⟩
  have HC3 : Hid (Below w1.heap.size w1 w3) := HC2.out.trans (g3.mono HC2.out.size)
  clear g3 HC2 HSP
  go_upto_if 67 with fail
  go_cut [] (fun wd => Below w.heap.size w wd)
  case first =>
    as_aux_lemma =>
      cases ok
      · go_wp2_with fail
        go_meet
        case rel => exact HB1.out.trans (HC3.out.mono HB1.out.size)
      · have HS' := HS.out rfl
        have HS2 : Hid (TellsSeg 8 S l (S.size : Int) true (fun v => Below w.heap.size w v)) := HS'
        have HTB2 : Hid (∀ q : Nat, q ≤ S.size → ∃ (X : ByteArray) (V : List Rc) (p : Int), V.length ≤ l.length ∧ l.take V.length = V ∧
          (∀ w, Tab w → Calls Tryd.prog 9 #[.string S, .int .i64 q] w fun e w' => e = .returned (.tuple #[.string X, .bool true]) ∧ Below w.heap.size w w') ∧
          (∀ w, Tab w → TellsSeg 8 X V p true (fun v => Below w.heap.size w v))) := HTB.out rfl
        clear HS HS' HTB
        go_wp2_with fail
        refine (HS2.out _ (HB1.out.trans (HC3.out.mono HB1.out.size))).mono ?_
        rintro e w4 ⟨b4, c4, rfl, o4, g4⟩
        have HR4 : Hid (∀ v, Below w4.heap.size w4 v → Rs v.heap.size b4 l v) := fun v g => (o4.rs.below g).mono g.size
        have HC4 : Hid (Below w1.heap.size w1 w4) := HC3.out.trans (g4.mono HC3.out.size)
        clear o4 g4 HC3 HS2
        go_wp2_with fail
        refine (numberOf_any a2 l2 c2 _ (HK2.out _ (HB1.out.trans (HC4.out.mono HB1.out.size)))).mono ?_
        rintro e w5 ⟨n, rfl, n0, n1, hw⟩
        subst hw
        obtain ⟨n, rfl⟩ : ∃ k : Nat, n = (k : Int) := ⟨n.toNat, by omega⟩
        have hq : ∃ q : Nat, (n : Int) % ((S.size : Int) + 1) = (q : Int) ∧ q ≤ S.size := by
          have e0 := Int.emod_nonneg (n : Int) (b := (S.size : Int) + 1) (by omega)
          have e1 := Int.emod_lt_of_pos (n : Int) (b := (S.size : Int) + 1) (by omega)
          exact ⟨((n : Int) % ((S.size : Int) + 1)).toNat, by omega, by omega⟩
        obtain ⟨q, eq, hq⟩ := hq
        obtain ⟨X, V, p, hV, hVt, hX, hXs⟩ := HTB2.out q hq
        have HX : Hid (∀ w, Tab w → Calls Tryd.prog 9 #[.string S, .int .i64 q] w fun e w' => e = .returned (.tuple #[.string X, .bool true]) ∧ Below w.heap.size w w') := hX
        have HXS : Hid (TellsSeg 8 X V p true (fun v => Below w.heap.size w v)) := hXs w HTW.out
        have HVT : Hid (l.take V.length = V) := hVt
        clear hX hXs hVt HTB2
        go_wp2_with fail
        rw [eq]
        refine (HX.out _ (HT.out _ (HB1.out.trans (HC4.out.mono HB1.out.size)))).mono ?_
        rintro e w6 ⟨rfl, g6⟩
        have HC6 : Hid (Below w1.heap.size w1 w6) := HC4.out.trans (g6.mono HC4.out.size)
        have HD6 : Hid (Below w5.heap.size w5 w6) := g6
        clear g6 HC4 HX
        go_wp2_with fail
        refine (HXS.out _ (HB1.out.trans (HC6.out.mono HB1.out.size))).mono ?_
        rintro e w7 ⟨b7, c7, rfl, o7, g7⟩
        have HC7 : Hid (Below w1.heap.size w1 w7) := HC6.out.trans (g7.mono HC6.out.size)
        have HD7 : Hid (Below w5.heap.size w5 w7) := HD6.out.trans (g7.mono HD6.out.size)
        have HR7 : Hid (∀ v, Below w7.heap.size w7 v → Rs v.heap.size b7 V v) := fun v g => (o7.rs.below g).mono g.size
        clear o7 g7 HC6 HD6 HXS
        have hcut := cut_recs b l.length V.length c (by omega)
        have hdv : decide ((l.length : Int) < (V.length : Int)) = false := decide_eq_false (by omega)
        go_wp2_with fail
        refine (sameRecords_same b4 b c4 c l _ (by omega) (HR4.out _ HD7.out) (HR.out _ HC7.out)).mono ?_
        rintro e w8 ⟨rfl, g8⟩
        have HC8 : Hid (Below w1.heap.size w1 w8) := HC7.out.trans (g8.mono HC7.out.size)
        have HR8 : Hid (Rs w8.heap.size b7 V w8) := HR7.out _ g8
        have HL8 : Hid (Rs w8.heap.size b V w8) := by
          have := (HR.out _ HC8.out).take V.length
          rw [HVT.out] at this
          exact this
        clear g8 HC7 HR7 HD7
        go_wp2_with fail
        refine (sameRecords_same b7 b c7 c V _ (by omega) HR8.out HL8.out).mono ?_
        rintro e w9 ⟨rfl, g9⟩
        have HC9 : Hid (Below w1.heap.size w1 w9) := HC8.out.trans (g9.mono HC8.out.size)
        clear g9 HC8 HR8 HL8 eq hq hcut hdv HVT n0 n1 hsz hlc
        go_wp2_with fail
        go_meet
        case rel => exact HB1.out.trans (HC9.out.mono HB1.out.size)
  case rest =>
    as_aux_lemma =>
      have HB : Hid (Below w.heap.size w wc) := hcut
      clear hcut HC3 HS HTB HR HB1
      go_wp2_with fail
      refine (drawReadSegment_any l2 c2 a2 _ (HK2.out _ HB.out)).mono ?_
      rintro e w4 ⟨u, rfl, hu, g4⟩
      have HB4 : Hid (Below w.heap.size w w4) := HB.out.trans (g4.mono HB.out.size)
      clear g4 HB
      obtain ⟨V, p, ok1, hV, hSS, hII⟩ := seg_tells u
      have HSS : Hid (TellsSeg 13 u V p ok1 (fun v => Below w.heap.size w v)) := hSS w
      have HII : Hid (TellsSeg 8 u V p ok1 (fun v => Below w.heap.size w v)) := hII w HTW.out
      clear hSS hII
      go_wp2_with fail
      refine (HII.out _ HB4.out).mono ?_
      rintro e w5 ⟨b5, d5, rfl, o5, g5⟩
      have HB5 : Hid (Below w.heap.size w w5) := HB4.out.trans (g5.mono HB4.out.size)
      have HR5 : Hid (∀ v, Below w5.heap.size w5 v → Rs v.heap.size b5 V v) := fun v g => (o5.rs.below g).mono g.size
      clear o5 g5 HB4 HII
      go_wp2_with fail
      refine (HSS.out _ HB5.out).mono ?_
      rintro e w6 ⟨b6, d6, rfl, o6, g6⟩
      have HC6 : Hid (Below w5.heap.size w5 w6) := g6
      have HR6 : Hid (∀ v, Below w6.heap.size w6 v → Rs v.heap.size b6 V v) := fun v g => (o6.rs.below g).mono g.size
      have HB6 : Hid (Below w.heap.size w w6) := HB5.out.trans (g6.mono HB5.out.size)
      clear o6 g6 HB5 HSS
      go_wp2_with fail
      refine (drawTornSegment_any l2 c2 a2 _ (HK2.out _ HB6.out)).mono ?_
      rintro e w7 ⟨x, k, rfl, hx, g7⟩
      have HB7 : Hid (Below w.heap.size w w7) := HB6.out.trans (g7.mono HB6.out.size)
      have HD7 : Hid (Below w6.heap.size w6 w7) := g7
      clear g7 HB6
      obtain ⟨X, ok2, hTS, hTI⟩ := torn_tells x k
      have HTS : Hid (∀ w, Calls Tryd.prog 15 #[.string x, .int .i64 k] w fun e w' => e = .returned (.tuple #[.string X, .bool ok2]) ∧ Below w.heap.size w w') := hTS
      have HTI : Hid (∀ w, Tab w → Calls Tryd.prog 9 #[.string x, .int .i64 k] w fun e w' => e = .returned (.tuple #[.string X, .bool ok2]) ∧ Below w.heap.size w w') := hTI
      clear hTS hTI
      go_wp2_with fail
      refine (HTI.out _ (HT.out _ HB7.out)).mono ?_
      rintro e w8 ⟨rfl, g8⟩
      have HB8 : Hid (Below w.heap.size w w8) := HB7.out.trans (g8.mono HB7.out.size)
      have HD8 : Hid (Below w6.heap.size w6 w8) := HD7.out.trans (g8.mono HD7.out.size)
      clear g8 HB7 HD7 HTI
      go_wp2_with fail
      refine (HTS.out _).mono ?_
      rintro e w9 ⟨rfl, g9⟩
      have HB9 : Hid (Below w.heap.size w w9) := HB8.out.trans (g9.mono HB8.out.size)
      have HD9 : Hid (Below w6.heap.size w6 w9) := HD8.out.trans (g9.mono HD8.out.size)
      clear g9 HB8 HD8 HTS
      go_wp2_with fail
      refine (drawReadRecord_any l2 c2 a2 _ (HK2.out _ HB9.out)).mono ?_
      rintro e w10 ⟨y, from', rfl, hy, g10⟩
      have HB10 : Hid (Below w.heap.size w w10) := HB9.out.trans (g10.mono HB9.out.size)
      have HD10 : Hid (Below w6.heap.size w6 w10) := HD9.out.trans (g10.mono HD9.out.size)
      clear g10 HB9 HD9
      obtain ⟨rk, rp, rn, re, rD, ok3, hRS, hRI, hRT⟩ := rec_tells y from'
      have HRS : Hid (∀ w, Calls Tryd.prog 18 #[.string y, .int .i64 from'] w fun x w' => x = .returned (.tuple #[.agg #[.int .i64 rk, .int .i64 rp, .int .i64 rn, .string rD], .int .i64 re, .bool ok3]) ∧ Below w.heap.size w w') := hRS
      have HRI : Hid (∀ w, Tab w → Calls Tryd.prog 17 #[.string y, .int .i64 from'] w fun x w' => x = .returned (.tuple #[.agg #[.int .i64 rk, .int .i64 rp, .int .i64 rn, .string rD], .int .i64 re, .bool ok3]) ∧ Below w.heap.size w w') := hRI
      have HRT : Hid (ok3 = true → (∀ w, Tab w → Calls Tryd.prog 19 #[.agg #[.int .i64 rk, .int .i64 rp, .int .i64 rn, .string rD]] w fun x w' => x = .returned (.tuple #[.string (textB rk rp rn rD), .bool true]) ∧ Below w.heap.size w w') ∧
        (∀ v, Sem.run Tryd.prog (Instr.slice 9 (.string y) (some (.int .i64 from')) (some (.int .i64 re)) none) v = .ok (.string (textB rk rp rn rD)) v)) := hRT
      clear hRS hRI hRT
      go_wp2_with fail
      refine (HRI.out _ (HT.out _ HB10.out)).mono ?_
      rintro e w11 ⟨rfl, g11⟩
      have HB11 : Hid (Below w.heap.size w w11) := HB10.out.trans (g11.mono HB10.out.size)
      have HD11 : Hid (Below w6.heap.size w6 w11) := HD10.out.trans (g11.mono HD10.out.size)
      clear g11 HB10 HD10 HRI
      have HRC11 : Hid (RC w11.heap.size rk rp rn rD (w11.alloc (.cells #[.int .i64 rk, .int .i64 rp, .int .i64 rn, .string rD] 36))) := RC.made _ _ _ _ _ _
      have HE11 : Hid (Below w6.heap.size w6 (w11.alloc (.cells #[.int .i64 rk, .int .i64 rp, .int .i64 rn, .string rD] 36))) := HD11.out.alloc HD11.out.size _
      have HF11 : Hid (Below w.heap.size w (w11.alloc (.cells #[.int .i64 rk, .int .i64 rp, .int .i64 rn, .string rD] 36))) := HB11.out.alloc HB11.out.size _
      clear HB11 HD11
      generalize hW : w11.alloc (.cells #[.int .i64 rk, .int .i64 rp, .int .i64 rn, .string rD] 36) = v11 at HRC11 HE11 HF11
      generalize hX : w11.heap.size = X1 at HRC11
      go_wp2_with fail
      clear hW hX
      refine (HRS.out _).mono ?_
      rintro e w12 ⟨rfl, g12⟩
      have HRC1 : Hid (RC X1 rk rp rn rD (w12.alloc (.cells #[.int .i64 rk, .int .i64 rp, .int .i64 rn, .string rD] 36))) := (HRC11.out.below g12).below ((Below.refl _ _).alloc (Nat.le_refl _) _)
      have HRC2 : Hid (RC w12.heap.size rk rp rn rD (w12.alloc (.cells #[.int .i64 rk, .int .i64 rp, .int .i64 rn, .string rD] 36))) := RC.made _ _ _ _ _ _
      have HE12 : Hid (Below w6.heap.size w6 w12) := HE11.out.trans (g12.mono HE11.out.size)
      have HF12 : Hid (Below w.heap.size w w12) := HF11.out.trans (g12.mono HF11.out.size)
      have HE : Hid (Below w6.heap.size w6 (w12.alloc (.cells #[.int .i64 rk, .int .i64 rp, .int .i64 rn, .string rD] 36))) := HE12.out.alloc HE12.out.size _
      have HF : Hid (Below w.heap.size w (w12.alloc (.cells #[.int .i64 rk, .int .i64 rp, .int .i64 rn, .string rD] 36))) := HF12.out.alloc HF12.out.size _
      clear g12 HRS HE11 HF11 HE12 HF12 HRC11
      generalize hW : w12.alloc (.cells #[.int .i64 rk, .int .i64 rp, .int .i64 rn, .string rD] 36) = w13 at HRC1 HRC2 HE HF
      generalize hX : w12.heap.size = X2 at HRC2
      go_upto_region 23 with fail
      clear hW hX
      have q0 := HRC1.out.c0
      have q1 := HRC1.out.c1
      have q2 := HRC1.out.c2
      have q3 := HRC1.out.c3
      have q4 := HRC2.out.c0
      have q5 := HRC2.out.c1
      have q6 := HRC2.out.c2
      have q7 := HRC2.out.c3
      have HP5 : Hid (Rs w13.heap.size b5 V w13) := HR5.out _ (HC6.out.trans (HE.out.mono HC6.out.size))
      have HP6 : Hid (Rs w13.heap.size b6 V w13) := HR6.out _ HE.out
      clear HR5 HR6 HE HC6
      go_cut [217] (fun s217 wc => s217 = .bool false ∧ RC X1 rk rp rn rD wc ∧ Below w.heap.size w wc)
      case first =>
        as_aux_lemma =>
          go_wp2_with fail
          refine (sameRecords_same b5 b6 d5 d6 V _ hV HP5.out HP6.out).mono ?_
          rintro e w14 ⟨rfl, g14⟩
          have HRA : Hid (RC X1 rk rp rn rD w14) := HRC1.out.below g14
          have HRB : Hid (RC X2 rk rp rn rD w14) := HRC2.out.below g14
          have HF14 : Hid (Below w.heap.size w w14) := HF.out.trans (g14.mono HF.out.size)
          clear q0 q1 q2 q3 q4 q5 q6 q7
          have r0 := HRA.out.c0
          have r1 := HRA.out.c1
          have r2 := HRA.out.c2
          have r3 := HRA.out.c3
          have r4 := HRB.out.c0
          have r5 := HRB.out.c1
          have r6 := HRB.out.c2
          have r7 := HRB.out.c3
          clear g14 HRB HRC1 HRC2 HF HP5 HP6
          go_wp2_with fail
          go_meet
          case rel => exact ⟨by simp, HRA.out, HF14.out⟩
      case rest =>
        as_aux_lemma =>
          obtain ⟨rfl, hRC, hF⟩ := hcut
          have HF9 : Hid (Below w.heap.size w wc) := hF
          have q0 := hRC.c0
          have q1 := hRC.c1
          have q2 := hRC.c2
          have q3 := hRC.c3
          clear hRC hF HF HRC1 HRC2 HP5 HP6
          cases ok3
          · go_wp2
            go_ret
            exact ⟨rfl, HF9.out⟩
          · obtain ⟨hTX, hsl⟩ := HRT.out rfl
            have HTX : Hid _ := hTX
            generalize textB rk rp rn rD = TB at *
            clear hTX HRT
            go_wp2_with fail
            refine (HTX.out _ (HT.out _ HF9.out)).mono ?_
            rintro e w15 ⟨rfl, g15⟩
            have HF15 : Hid (Below w.heap.size w w15) := HF9.out.trans (g15.mono HF9.out.size)
            clear g15 HF9 HTX
            go_wp2
            go_ret
            exact ⟨rfl, HF15.out⟩
end Go.Proofs.YthoeffbefmhkjaaDoor
