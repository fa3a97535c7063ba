/- The law on cleaning: its walk out of the contracts. -/
import Derived.Test.YtohkhcjdjjlfbaaHDl
import Derived.Deep.DeepCutAuto
import Derived.Deep.RegionWith
namespace Go.Proofs.Ytohkhcjdjjlfbaa
set_option maxRecDepth 100000
open Go Go.ChangeShapes Go.WideShapes Go.ChangeAt Go.RowKit G00541
set_option maxHeartbeats 6000000 in
theorem cleaned_small (l1 c1 l2 c2 : Nat) (a1 a2 : Option Addr) (w : World) (h12 : l1 + l2 ≤ 1048576) (hK1 : Code w.heap.size l1 c1 a1 w) (hK2 : Code w.heap.size l2 c2 a2 w) :
    Calls Try.prog 3 #[.slice a1 l1 c1, .slice a2 l2 c2] w fun e w' => e = .returned (.bool true) ∧ Below w.heap.size w w' := by
  have hd : decide ((1048576 : Int) < (l1 : Int) + (l2 : Int)) = false := by simp; omega
  have HK1 := hid hK1
  have HS : Hid (S5 w l2 c2 a2 w) := ⟨Below.refl _ _, hK2⟩
  clear hK1 hK2
  go_enter Try.func3, Try.ntmps3
  go_wp2_with fail
  refine (drawClean_any l1 c1 a1 _ HK1.out).mono ?_
  rintro e w1 ⟨aS, kS, aL, kL, S, L, k, rfl, h6, hg, hb⟩
  have HX1 := hid (HX.start hg kS kL)
  have HS1 := hid ((HS.out.on hb).on (boxB w1 (.cells #[.slice aS S.length kS, .slice aL L.length kL] 26)))
  obtain ⟨S', L', n, ok, CI0, CS0, hsm, hcl⟩ := clean_tells S L k hg.1
  obtain ⟨m, one, LI0, LS0, hlv⟩ := live_tells S L k hg.1
  have CI := hid CI0
  have CS := hid CS0
  have LI := hid LI0
  have LS := hid LS0
  have HSM := hid hsm
  have HCL := hid hcl
  have HLV := hid hlv
  have HLL := hid hg.1
  clear HS HK1 hb hg CI0 CS0 LI0 LS0 hsm hcl hlv
  go_wp2_with fail
  refine (CI.out aS kS aL kL _ HX1.out.hg).mono ?_
  rintro e w3 ⟨bS, jS, bL, jL, rfl, hg3, b3⟩
  have HX3 := hid ((HX1.out.on b3).on (boxB w3 (.cells #[.slice bS S'.length jS, .slice bL L'.length jL] 26)))
  have HS3 := hid ((HS1.out.on b3).on (boxB w3 (.cells #[.slice bS S'.length jS, .slice bL L'.length jL] 26)))
  have HY3 := hid (HX.start hg3 jS jL)
  have y0 := box_cell (HX1.out.on b3).box 0
  have y1 := box_cell (HX1.out.on b3).box 1
  have hQ3 := (HX1.out.on b3).lt
  clear hg3 b3 HX1 HS1 CI
  generalize w1.heap.size = Q1 at *
  go_wp2_with fail
  refine (CS.out aS kS aL kL _ HX3.out.hg).mono ?_
  rintro e w4 ⟨dS, iS, dL, iL, rfl, hg4, b4⟩
  have HX4 := hid ((HX3.out.on b4).on (boxB w4 (.cells #[.slice dS S'.length iS, .slice dL L'.length iL] 26)))
  have HS4 := hid ((HS3.out.on b4).on (boxB w4 (.cells #[.slice dS S'.length iS, .slice dL L'.length iL] 26)))
  have HY4 := hid ((HY3.out.on b4).on (boxB w4 (.cells #[.slice dS S'.length iS, .slice dL L'.length iL] 26)))
  have HZ4 := hid (HX.start hg4 iS iL)
  have y0 := box_cell (HX3.out.on b4).box 0
  have y1 := box_cell (HX3.out.on b4).box 1
  have hQ4 := (HX3.out.on b4).lt
  clear hg4 b4 HX3 HS3 HY3 CS hQ3
  generalize w3.heap.size = Q2 at *
  go_wp2_with fail
  refine (LI.out aS kS aL kL _ HX4.out.hg).mono ?_
  rintro e w5 ⟨rfl, b5⟩
  have HX5 := hid (HX4.out.on b5)
  have HS5 := hid (HS4.out.on b5)
  have HY5 := hid (HY4.out.on b5)
  have HZ5 := hid (HZ4.out.on b5)
  clear b5 HX4 HS4 HY4 HZ4 LI y0 y1 hQ4
  have y0 := box_cell HX5.out.box 0
  have y1 := box_cell HX5.out.box 1
  generalize w4.heap.size = Q3 at *
  go_wp2_with fail
  refine (LS.out aS kS aL kL _ HX5.out.hg).mono ?_
  rintro e w6 ⟨rfl, b6⟩
  have HX6 := hid (HX5.out.on b6)
  have HS6 := hid (HS5.out.on b6)
  have HY6 := hid (HY5.out.on b6)
  have HZ6 := hid (HZ5.out.on b6)
  clear b6 HX5 HS5 HY5 HZ5 LS y0 y1
  have hoo : (ok != ok) = false := by cases ok <;> rfl
  have hon : (one != one) = false := by cases one <;> rfl
  have hnn : (n != n) = false := by simp
  have hmm : (m != m) = false := by simp
  have HSH : Hid (∀ v, HG bS bL S' L' v → HG dS dL S' L' v → Calls Try.prog 10 #[.agg #[.slice bS S'.length jS, .slice bL L'.length jL], .agg #[.slice dS S'.length iS, .slice dL L'.length iL]] v fun e w' => e = .returned (.bool true) ∧ Below v.heap.size v w') := fun v h1 h2 => sameHeap_same bS dS bL dL jS iS jL iL S' L' v h1.1 HSM.out.1 HSM.out.2.1 HSM.out.2.2 h1.2.1 h1.2.2 h2.2.1 h2.2.2
  go_upto_region 8 with fail
  go_cut [106] (fun s wc => s = .bool false ∧ S5 w l2 c2 a2 wc ∧ HX Q1 aS aL kS kL S L wc ∧ HX Q2 bS bL jS jL S' L' wc)
  case first =>
    as_aux_lemma =>
      have y0 := box_cell HX6.out.box 0
      have y1 := box_cell HX6.out.box 1
      have x0 := box_cell HY6.out.box 0
      have x1 := box_cell HY6.out.box 1
      have z0 := box_cell HZ6.out.box 0
      have z1 := box_cell HZ6.out.box 1
      have IG : Hid (∀ v, HG aS aL S L v → Calls Try.prog 11 #[.agg #[.slice aS S.length kS, .slice aL L.length kL]] v fun e w' => e = .returned (.bool (goodH S L)) ∧ Below v.heap.size v w') := fun v hv => igoodH_any aS aL kS kL S L v hv.2.1 hv.2.2
      have SG : Hid (∀ v, HG aS aL S L v → Calls Try.prog 12 #[.agg #[.slice aS S.length kS, .slice aL L.length kL]] v fun e w' => e = .returned (.bool (goodH S L)) ∧ Below v.heap.size v w') := fun v hv => sgoodH_any aS aL kS kL S L v hv.2.1 hv.2.2
      generalize goodH S L = g at *
      have hgg : (g != g) = false := by cases g <;> rfl
      have BD : Below w6.heap.size w6 w6.drew := (Below.refl _ _).drew
      have HSS : Hid (∀ v, Below w6.heap.size w6 v → v.cell? ⟨Q1, 0, none⟩ = some (.slice aS S.length kS) ∧ v.cell? ⟨Q1, 1, none⟩ = some (.slice aL L.length kL) ∧ v.cell? ⟨Q2, 0, none⟩ = some (.slice bS S'.length jS) ∧ v.cell? ⟨Q2, 1, none⟩ = some (.slice bL L'.length jL) ∧ v.cell? ⟨Q3, 0, none⟩ = some (.slice dS S'.length iS) ∧ v.cell? ⟨Q3, 1, none⟩ = some (.slice dL L'.length iL)) := fun v g => ⟨box_cell (HX6.out.on g).box 0, box_cell (HX6.out.on g).box 1, box_cell (HY6.out.on g).box 0, box_cell (HY6.out.on g).box 1, box_cell (HZ6.out.on g).box 0, box_cell (HZ6.out.on g).box 1⟩
      clear y0 y1 x0 x1 z0 z1
      have d0 := HSS.out _ BD
      go_region_held (fun v => v.cell? ⟨Q1, 0, none⟩ = some (.slice aS S.length kS) ∧ v.cell? ⟨Q1, 1, none⟩ = some (.slice aL L.length kL) ∧ v.cell? ⟨Q2, 0, none⟩ = some (.slice bS S'.length jS) ∧ v.cell? ⟨Q2, 1, none⟩ = some (.slice bL L'.length jL) ∧ v.cell? ⟨Q3, 0, none⟩ = some (.slice dS S'.length iS) ∧ v.cell? ⟨Q3, 1, none⟩ = some (.slice dL L'.length iL)) (first | exact HSS.out _ (by with_reducible assumption)) (first | (go_at_call 10; refine (HSH.out _ (HY6.out.on BD).hg (HZ6.out.on BD).hg).mono ?_; rintro e w7 ⟨rfl, b7⟩; have B7 : Below w6.heap.size w6 w7 := BD.trans (b7.mono BD.size)) | (go_at_call 12; refine (SG.out _ (HX6.out.on B8).hg).mono ?_; rintro e w9 ⟨rfl, b9⟩; have B9 : Below w6.heap.size w6 w9 := B8.trans (b9.mono B8.size)) | (go_at_call 11; refine (IG.out _ (HX6.out.on B7).hg).mono ?_; rintro e w8 ⟨rfl, b8⟩; have B8 : Below w6.heap.size w6 w8 := B7.trans (b8.mono B7.size)))
      all_goals
        have HS9 := hid (HS6.out.on B9)
        have HX9 := hid (HX6.out.on B9)
        have HY9 := hid (HY6.out.on B9)
        clear d0 b7 b8 b9 B7 B8 B9
        go_wp2_with fail
        go_meet
        case rel => exact ⟨rfl, HS9.out, HX9.out, HY9.out⟩
  case rest =>
    as_aux_lemma =>
      clear HX6 HS6 HY6 HZ6 HSH HSM hoo hon hnn hmm
      obtain ⟨rfl, hs0, hx0, hy0⟩ := hcut
      have HS7 := hid hs0
      have HX7 := hid hx0
      have HY7 := hid hy0
      clear hs0 hx0 hy0
      go_upto_if 107 with fail
      go_cut [17, 18, 19, 20, 21, 22, 23, 24, 25] (fun _ _ _ _ _ _ _ _ _ wd => S5 w l2 c2 a2 wd)
      case first =>
        as_aux_lemma =>
          cases ok
          · go_wp2_with fail
            go_meet
            case rel => exact HS7.out
          · obtain ⟨hg1, hg2, b, hkb, hbS, hSl, hsort, hbl, hnc⟩ := HCL.out rfl
            obtain ⟨h1, h2⟩ := HLV.out hg1 b hkb hbS
            subst hkb; subst h1
            have hmn : m = n := h2.trans hnc.symm
            subst hmn
            clear HCL HLV h2 hnc
            obtain ⟨V, k1, CA0, -, hV, hVg⟩ := all_tells S L HLL.out
            obtain ⟨rfl, -, -, hVs⟩ := hVg hg1
            obtain ⟨V', k2, CB0, -, hV', hVg'⟩ := all_tells S' L' HY7.out.hg.1
            obtain ⟨rfl, -, hVm', hVs'⟩ := hVg' hg2
            obtain rfl : V' = V := by rw [hVs, hVs', hsort]
            have CG : Hid (∀ v, HG bS bL S' L' v → Calls Try.prog 11 #[.agg #[.slice bS S'.length jS, .slice bL L'.length jL]] v fun e w' => e = .returned (.bool true) ∧ Below v.heap.size v w') := fun v hv => by
              have h := igoodH_any bS bL jS jL S' L' v hv.2.1 hv.2.2
              rw [hg2] at h
              exact h
            have HWI : Hid (∀ y ∈ V', ∃ s i : Nat, ∃ (hs : s < S'.length) (hi : i < S'[s].bl.length), s ≠ b ∧ S'[s].bl[i] = y ∧ ∀ v, HG bS bL S' L' v → Calls Try.prog 15 #[.agg #[.slice bS S'.length jS, .slice bL L'.length jL], .int .i64 y] v fun e w' => e = .returned (.tuple #[.int .i64 (s : Int), .int .i64 (i : Int), .bool true]) ∧ Below v.heap.size v w') := fun y hy => by
              obtain ⟨s, i, hwh⟩ := whereH_of HY7.out.hg.1 ((hVm' y).1 hy)
              obtain ⟨q1, q2, q3, -⟩ := whereH_spec hwh
              have hsb : s ≠ b := fun e => by rw [e, hbl] at q2; simp at q2
              have q4 := q2
              rw [blAt_eq S' s q1] at q4
              rw [blAt_eq S' s q1, List.getD_eq_getElem?_getD, List.getElem?_eq_getElem q4] at q3
              refine ⟨s, i, q1, q4, hsb, q3, fun v hv => ?_⟩
              have h := iWhere_yes bS bL jS jL S' L' y v hv.1 hg2 hv.2.1 hv.2.2
              rw [hwh] at h
              exact h
            have hbS' : b < S'.length := by omega
            have hblb : (S'[b]'hbS').bl.length = 0 := by rw [← blAt_eq S' b hbS', hbl]; rfl
            have CA := hid CA0
            have CB := hid CB0
            clear hSl
            clear CA0 CB0 hsort hbl hg1 hg2 hVm' hVs hVs' hVg hVg' hV'
            have y0 := box_cell HX7.out.box 0
            have y1 := box_cell HX7.out.box 1
            have hmm : (m != m) = false := by simp
            go_wp2_with fail
            refine (CA.out aS kS aL kL _ HX7.out.hg).mono ?_
            rintro e w8 ⟨bA, cA, rfl, hI8, b8⟩
            have HS8 := hid (HS7.out.on b8)
            have HY8 := hid (HY7.out.on b8)
            have HI8 := hid hI8
            clear hI8 b8 HX7 HS7 HY7 CA y0 y1
            have y0 := box_cell HY8.out.box 0
            have y1 := box_cell HY8.out.box 1
            go_wp2_with fail
            refine (CB.out bS jS bL jL _ HY8.out.hg).mono ?_
            rintro e w9 ⟨bB, cB, rfl, hJ9, b9⟩
            have HS9 := hid (HS8.out.on b9)
            have HY9 := hid (HY8.out.on b9)
            have HI9 := hid ((HI8.out.below b9).mono b9.size)
            have HJ9 := hid hJ9
            clear hJ9 b9 HS8 HY8 HI8 CB y0 y1
            have y0 := box_cell HY9.out.box 0
            have y1 := box_cell HY9.out.box 1
            go_wp2_with fail
            refine (CG.out _ HY9.out.hg).mono ?_
            rintro e w10 ⟨rfl, b10⟩
            have HS10 := hid (HS9.out.on b10)
            have HY10 := hid (HY9.out.on b10)
            have HI10 := hid ((HI9.out.below b10).mono b10.size)
            have HSI := hid (sameInts_same bA bB cA cB V' w10 hV HI10.out ((HJ9.out.below b10).mono b10.size))
            clear b10 HS9 HY9 HI9 HJ9 CG y0 y1
            go_wp2_with fail
            refine HSI.out.mono ?_
            rintro e w11 ⟨rfl, b11⟩
            have HS11 := hid (HS10.out.on b11)
            have HY11 := hid (HY10.out.on b11)
            have HI11 := hid ((HI10.out.below b11).mono b11.size)
            clear b11 HS10 HY10 HI10 HSI
            have y0 := box_cell HY11.out.box 0
            have y1 := box_cell HY11.out.box 1
            obtain ⟨bb, off, e1, hbb, hcl⟩ := HY11.out.hg.2.1 (by omega)
            subst e1
            obtain ⟨p, c, c0, -, -⟩ := hcl b hbS'
            rw [hblb] at c0
            clear hcl
            go_wp2_with fail
            go_loopw [156] (fun i wr => ∃ j : Nat, j ≤ V'.length ∧ i = .int .i64 (j : Int) ∧ S5 w l2 c2 a2 wr ∧ HX Q2 (some ⟨bb, off, none⟩) bL jS jL S' L' wr ∧ Is wr.heap.size bA V' wr) (fun i _ => V'.length - (intOf i).toNat)
            case atStart => exact ⟨0, Nat.zero_le _, rfl, HS11.out, HY11.out, HI11.out⟩
            case round =>
              clear HS11 HY11 HI11 y0 y1 c0 hbb hblb
              obtain ⟨j, hj, rfl, hs, hy, hi⟩ := hrel
              have HS12 := hid hs
              have HY12 := hid hy
              have HI12 := hid hi
              clear hs hy hi
              by_cases hlt : j < V'.length
              · obtain ⟨b1, o1, e1, hb1, hc1⟩ := HI12.out.cell (by omega)
                subst e1
                have x0 := hc1 j hlt
                obtain ⟨s, i, hsS, hiS, hsb, hval, hcall⟩ := HWI.out _ (List.getElem_mem hlt)
                have HC := hid hcall
                clear hc1 hcall
                generalize V'[j] = y at *
                have y0 := box_cell HY12.out.box 0
                have y1 := box_cell HY12.out.box 1
                go_wp2_with fail
                refine (HC.out _ HY12.out.hg).mono ?_
                rintro e w13 ⟨rfl, b13⟩
                have HS13 := hid (HS12.out.on b13)
                have HY13 := hid (HY12.out.on b13)
                have HI13 := hid ((HI12.out.below b13).mono b13.size)
                clear b13 HS12 HY12 HI12 HC x0 y0 y1
                have y0 := box_cell HY13.out.box 0
                have y1 := box_cell HY13.out.box 1
                obtain ⟨b7, o7, e7, hb7, hcl⟩ := HY13.out.hg.2.1 (by omega)
                injection e7 with e7
                injection e7 with e71 e72 e73
                subst e71; subst e72
                obtain ⟨p, c, c0, -, hIs⟩ := hcl s hsS
                obtain ⟨b8, o8, e8, hb8, hc8⟩ := hIs.cell (by omega)
                subst e8
                have d0 := hc8 i hiS
                rw [hval] at d0
                have hsk : ((s : Int) == (b : Int)) = false := beq_eq_false_iff_ne.2 (by omega)
                have hyy : (y != y) = false := by simp
                clear hcl hIs hc8 hval e73
                generalize S'[s].bl.length = ln at *
                go_wp2_with fail
                go_roundw
                case rel => exact ⟨j + 1, by omega, by go_num, HS13.out, HY13.out, HI13.out⟩
                case measure => simp [intOf]; omega
              · go_wp2_with fail
                go_meet
                case rel => exact HS12.out
      case rest =>
        as_aux_lemma =>
          clear HX7 HS7 HY7 HCL HLV HLL h6
          have HS := hid hcut
          clear hcut
          go_wp2_with fail
          refine (drawWhere_any l2 c2 a2 _ HS.out.draw).mono ?_
          rintro e w6 ⟨aS, kS, aL, kL, S, L, x, rfl, h6, hg, hb⟩
          have HX6 := hid (HX.start hg kS kL)
          have HS6 := hid ((HS.out.on hb).on (boxB w6 (.cells #[.slice aS S.length kS, .slice aL L.length kL] 26)))
          obtain ⟨s, i, k1, CA0, CB0⟩ := where_tells S L x
          have CA := hid CA0
          have CB := hid CB0
          clear HS hb hg CA0 CB0
          go_wp2_with fail
          refine (CA.out aS kS aL kL _ HX6.out.hg).mono ?_
          rintro e w7 ⟨rfl, b7⟩
          have HX7 := hid (HX6.out.on b7)
          have HS7 := hid (HS6.out.on b7)
          have y0 := box_cell HX7.out.box 0
          have y1 := box_cell HX7.out.box 1
          clear b7 HX6 HS6 CA
          generalize w6.heap.size = Q4 at *
          go_wp2_with fail
          refine (CB.out aS kS aL kL _ HX7.out.hg).mono ?_
          rintro e w8 ⟨rfl, b8⟩
          have HS8 := hid (HS7.out.on b8)
          clear b8 HX7 HS7 CB y0 y1
          go_wp2_with fail
          refine (drawFree_any l2 c2 a2 _ HS8.out.draw).mono ?_
          rintro e w9 ⟨fS, gS, fL, gL, S5', L5', rfl, h65, hg9, hb9⟩
          have HX9 := hid (HX.start hg9 gS gL)
          have HS9 := hid ((HS8.out.on hb9).on (boxB w9 (.cells #[.slice fS S5'.length gS, .slice fL L5'.length gL] 26)))
          obtain ⟨fn, fok, CC0, CD0⟩ := free_tells S5' L5' h65
          have CC := hid CC0
          have CD := hid CD0
          clear HS8 hb9 hg9 CC0 CD0
          go_wp2_with fail
          refine (CC.out fS gS fL gL _ HX9.out.hg).mono ?_
          rintro e w10 ⟨rfl, b10⟩
          have HX10 := hid (HX9.out.on b10)
          have HS10 := hid (HS9.out.on b10)
          have y0 := box_cell HX10.out.box 0
          have y1 := box_cell HX10.out.box 1
          clear b10 HX9 HS9 CC
          generalize w9.heap.size = Q5 at *
          go_wp2_with fail
          refine (CD.out fS gS fL gL _ HX10.out.hg).mono ?_
          rintro e w11 ⟨rfl, b11⟩
          have HS11 := hid (HS10.out.on b11)
          clear b11 HX10 HS10 CD y0 y1
          have e1 : (k1 == k1) = true := by simp
          have e2 : (s == s) = true := by simp
          have e3 : (i == i) = true := by simp
          have e4 : (fok == fok) = true := by simp
          have e5 : (fn == fn) = true := by simp
          go_wp2_with fail
          go_ret
          exact ⟨rfl, HS11.out.below⟩
set_option maxHeartbeats 1000000 in
theorem cleaned_big (l1 c1 l2 c2 : Nat) (a1 a2 : Option Addr) (w : World) (h1 : l1 ≤ 4611686018427387903) (h2 : l2 ≤ 4611686018427387903) (h12 : ¬ l1 + l2 ≤ 1048576) :
    Calls Try.prog 3 #[.slice a1 l1 c1, .slice a2 l2 c2] w fun e w' => e = .returned (.bool true) ∧ Below w.heap.size w w' := by
  have hd : decide ((1048576 : Int) < (l1 : Int) + (l2 : Int)) = true := by simp; omega
  go_enter Try.func3, Try.ntmps3
  go_wp2_with fail
  go_ret
  exact ⟨rfl, Below.refl _ _⟩
end Go.Proofs.Ytohkhcjdjjlfbaa
