/- The law on what is picked and written: its walk out of the contracts. -/
import Derived.Test.YtpdcomlokcohjaaHDw
import Derived.Deep.DeepCutAuto
namespace Go.Proofs.Ytpdcomlokcohjaa
set_option maxRecDepth 100000
open Go Go.ChangeShapes Go.WideShapes Go.ChangeAt Go.RowKit G00541
theorem live_cnt (S : List Sg) (L : List (List Bool)) (hg : goodH S L = true) (j : Nat) (hj : j < S.length) (aS : Option Addr) (kS : Nat) (aL : Option Addr) (kL : Nat) (v : World) (hv : HG aS aL S L v) :
    Calls Try.prog 8 #[.agg #[.slice aS S.length kS, .slice aL L.length kL], .int .i64 (j : Int)] v fun e w' => e = .returned (.tuple #[.int .i64 ((cntAt L j : Nat) : Int), .bool true]) ∧ Below v.heap.size v w' := by
  have h := iLiveIn_yes aS aL kS kL S L j v hv.2.1 hv.2.2 hg hj hv.1
  rw [← cntAt_eq L j (by have := hv.1; omega)] at h
  exact h
set_option maxHeartbeats 6000000 in
theorem picked_small (l1 c1 l2 c2 : Nat) (a1 a2 : Option Addr) (w : World) (h12 : l1 + l2 ≤ 1048576) (hK1 : Code w.heap.size l1 c1 a1 w) (hK2 : Code w.heap.size l2 c2 a2 w) :
    Calls Try.prog 4 #[.slice a1 l1 c1, .slice a2 l2 c2] w fun e w' => e = .returned (.bool true) ∧ Below w.heap.size w w' := by
  have hd : decide ((1048576 : Int) < (l1 : Int) + (l2 : Int)) = false := by simp; omega
  have HK1 := hid hK1
  have HS : Hid (S5 w l2 c2 a2 w) := ⟨Below.refl _ _, hK2⟩
  clear hK1 hK2
  go_enter Try.func4, Try.ntmps4
  go_wp2_with fail
  refine (drawPick_any l1 c1 a1 _ HK1.out).mono ?_
  rintro e w1 ⟨aS, kS, aL, kL, S, L, how, rfl, h6, hg, hb⟩
  have HX1 := hid (HX.start hg kS kL)
  have HS1 := hid ((HS.out.on hb).on (boxB w1 (.cells #[.slice aS S.length kS, .slice aL L.length kL] 26)))
  clear HS HK1 hb hg
  obtain ⟨k, ok, CI0, CS0, hpk⟩ := pick_tells S L how
  have CI := hid CI0
  have CS := hid CS0
  have HPK := hid hpk
  clear CI0 CS0 hpk
  go_wp2_with fail
  refine (CI.out aS kS aL kL _ HX1.out.hg).mono ?_
  rintro e w3 ⟨rfl, b3⟩
  have HX3 := hid (HX1.out.on b3)
  have HS3 := hid (HS1.out.on b3)
  have y0 := box_cell HX3.out.box 0
  have y1 := box_cell HX3.out.box 1
  clear b3 HX1 HS1 CI
  generalize w1.heap.size = Q at *
  go_wp2_with fail
  refine (CS.out aS kS aL kL _ HX3.out.hg).mono ?_
  rintro e w4 ⟨rfl, b4⟩
  have HX4 := hid (HX3.out.on b4)
  have HS4 := hid (HS3.out.on b4)
  clear b4 HX3 HS3 CS y0 y1
  have hoo : (ok != ok) = false := by cases ok <;> rfl
  have hkk : (k != k) = false := by simp
  go_upto_if 68 with fail
  go_cut [11, 12, 13, 14, 15, 16] (fun _ _ _ _ _ _ wd => S5 w l2 c2 a2 wd)
  case first =>
    as_aux_lemma =>
      cases ok
      · go_wp2_with fail
        go_meet
        case rel => exact HS4.out
      · obtain ⟨hgood, b, rfl, hbS, hl6, hmin⟩ := HPK.out rfl
        have HMIN := hid hmin
        have HGD := hid hgood
        clear HPK hoo hkk hmin hgood
        have y0 := box_cell HX4.out.box 0
        have y1 := box_cell HX4.out.box 1
        go_wp2_with fail
        refine (live_cnt S L HGD.out b hbS aS kS aL kL _ HX4.out.hg).mono ?_
        rintro e w5 ⟨rfl, b5⟩
        have HX5 := hid (HX4.out.on b5)
        have HS5 := hid (HS4.out.on b5)
        clear b5 HX4 HS4 y0 y1
        have y0 := box_cell HX5.out.box 0
        have y1 := box_cell HX5.out.box 1
        have HN := hid (cntAt_eq L b (by have := HX5.out.hg.1; omega))
        generalize hnb : cntAt L b = nb at *
        obtain ⟨bb, off, rfl, hbb, hcl⟩ := HX5.out.hg.2.1 (by omega)
        obtain ⟨p, c, c0, c1, -⟩ := hcl b hbS
        rw [lenAt_eq S b hbS] at hl6
        rw [hl6] at c0
        clear hcl HN
        go_wp2_with fail
        go_loopw [90] (fun i wr => ∃ j : Nat, j ≤ S.length ∧ i = .int .i64 (j : Int) ∧ S5 w l2 c2 a2 wr ∧ HX Q (some ⟨bb, off, none⟩) aL kS kL S L wr) (fun i _ => S.length - (intOf i).toNat)
        case atStart => exact ⟨0, Nat.zero_le _, rfl, HS5.out, HX5.out⟩
        case round =>
          clear HX5 HS5 y0 y1 c0 c1 hbb
          obtain ⟨j, hj, rfl, hs, hx⟩ := hrel
          have HS6 := hid hs
          have HX6 := hid hx
          by_cases hlt : j < S.length
          · have y0 := box_cell hx.box 0
            have y1 := box_cell hx.box 1
            have hQ := hx.lt
            obtain ⟨b7, o7, e7, hb7, hcl⟩ := hx.hg.2.1 (by omega)
            injection e7 with e7
            injection e7 with e71 e72 _
            subst e71; subst e72
            obtain ⟨p7, d7, x0, x1, -⟩ := hcl j hlt
            have HM : Hid (how = 1 → S[j].bl.length = 6 → nb ≤ cntAt L j) := fun h1 h2 => by
              have := HMIN.out h1 j hlt (by rw [lenAt_eq S j hlt]; exact h2)
              omega
            clear hcl hs hx
            have HC := hid (fun v (hv : HG (some ⟨bb, off, none⟩) aL S L v) => live_cnt S L HGD.out j hlt _ kS _ kL v hv)
            generalize S[j] = s at *
            obtain ⟨l, age⟩ := s
            simp only at x0 x1 HM
            have HX7 := hid (HX6.out.on (boxB wr (.cells #[.slice p7 l.length d7, .int .i64 age] 40)))
            have HS7 := hid (HS6.out.on (boxB wr (.cells #[.slice p7 l.length d7, .int .i64 age] 40)))
            go_wp2_with fail
            refine (HC.out _ HX7.out.hg).mono ?_
            rintro e w8 ⟨rfl, b8⟩
            have HX8 := hid (HX7.out.on b8)
            have HS8 := hid (HS7.out.on b8)
            have z0 := box_cell ((b8.block _ (block_ltH (heap_last wr (.cells #[.slice p7 l.length d7, .int .i64 age] 40)))).trans (heap_last wr _)) 0
            clear b8 HX7 HS7 HX6 HS6 HC y0 y1 x0 x1
            generalize cntAt L j = nj at *
            by_cases h1 : how = 1
            · have d1 : (how == 1) = true := beq_iff_eq.2 h1
              by_cases h2 : l.length = 6
              · have d2 : ((l.length : Int) == 6) = true := beq_iff_eq.2 (by omega)
                have h3 := HM.out h1 h2
                have d3 : decide ((nj : Int) < (nb : Int)) = false := decide_eq_false (by omega)
                have d4 : decide (nj < nb) = false := decide_eq_false (by omega)
                clear h1 h2 h3
                go_wp2_with fail
                go_roundw
                case rel => exact ⟨j + 1, by omega, by go_num, HS8.out, HX8.out⟩
                case measure => simp [intOf]; omega
              · have d2 : ((l.length : Int) == 6) = false := beq_eq_false_iff_ne.2 (by omega)
                clear h1 h2
                go_wp2_with fail
                go_roundw
                case rel => exact ⟨j + 1, by omega, by go_num, HS8.out, HX8.out⟩
                case measure => simp [intOf]; omega
            · have d1 : (how == 1) = false := beq_eq_false_iff_ne.2 h1
              go_wp2_with fail
              go_roundw
              case rel => exact ⟨j + 1, by omega, by go_num, HS8.out, HX8.out⟩
              case measure => simp [intOf]; omega
          · clear hs hx
            go_wp2_with fail
            go_meet
            case rel => exact HS6.out
  case rest =>
    as_aux_lemma =>
      clear HX4 HS4 HPK hoo hkk h6
      have HS := hid hcut
      clear hcut
      go_wp2_with fail
      refine (drawWrite_any l2 c2 a2 _ HS.out.draw).mono ?_
      rintro e w1 ⟨aS, kS, aL, kL, S, L, x, rfl, h6, hg, hb⟩
      have HX1 := hid (HX.start hg kS kL)
      have HS1 := hid ((HS.out.on hb).on (boxB w1 (.cells #[.slice aS S.length kS, .slice aL L.length kL] 26)))
      obtain ⟨S', L', ok, CI0, CS0, hsm, hwr⟩ := write_tells S L x hg.1
      have CI := hid CI0
      have CS := hid CS0
      have HSM := hid hsm
      have HWR := hid hwr
      have HLL := hid hg.1
      clear HS hb hg CI0 CS0 hsm hwr
      go_wp2_with fail
      refine (CI.out aS kS aL kL _ HX1.out.hg).mono ?_
      rintro e w3 ⟨bS, jS, bL, jL, rfl, hg3, b3⟩
      have HX3 := hid ((HX1.out.on b3).on (boxB w3 (.cells #[.slice bS S'.length jS, .slice bL L'.length jL] 26)))
      have HS3 := hid ((HS1.out.on b3).on (boxB w3 (.cells #[.slice bS S'.length jS, .slice bL L'.length jL] 26)))
      have HY3 := hid (HX.start hg3 jS jL)
      have y0 := box_cell (HX1.out.on b3).box 0
      have y1 := box_cell (HX1.out.on b3).box 1
      have hQ3 := (HX1.out.on b3).lt
      clear hg3 b3 HX1 HS1 CI
      generalize w1.heap.size = Q1 at *
      go_wp2_with fail
      refine (CS.out aS kS aL kL _ HX3.out.hg).mono ?_
      rintro e w4 ⟨dS, iS, dL, iL, rfl, hg4, b4⟩
      have HX4 := hid ((HX3.out.on b4).on (boxB w4 (.cells #[.slice dS S'.length iS, .slice dL L'.length iL] 26)))
      have HS4 := hid ((HS3.out.on b4).on (boxB w4 (.cells #[.slice dS S'.length iS, .slice dL L'.length iL] 26)))
      have HY4 := hid ((HY3.out.on b4).on (boxB w4 (.cells #[.slice dS S'.length iS, .slice dL L'.length iL] 26)))
      have HZ4 := hid (HX.start hg4 iS iL)
      have z0 := box_cell (HY3.out.on b4).box 0
      have z1 := box_cell (HY3.out.on b4).box 1
      have hQ4 := (HY3.out.on b4).lt
      clear hg4 b4 HX3 HS3 HY3 CS y0 y1 hQ3
      generalize w3.heap.size = Q2 at *
      have hoo : (ok != ok) = false := by cases ok <;> rfl
      have HSH : Hid (∀ v, HG bS bL S' L' v → HG dS dL S' L' v → Calls Try.prog 10 #[.agg #[.slice bS S'.length jS, .slice bL L'.length jL], .agg #[.slice dS S'.length iS, .slice dL L'.length iL]] v fun e w' => e = .returned (.bool true) ∧ Below v.heap.size v w') := fun v h1 h2 => sameHeap_same bS dS bL dL jS iS jL iL S' L' v h1.1 HSM.out.1 HSM.out.2.1 HSM.out.2.2 h1.2.1 h1.2.2 h2.2.1 h2.2.2
      go_wp2_with fail
      refine (HSH.out _ HY4.out.hg HZ4.out.hg).mono ?_
      rintro e w5 ⟨rfl, b5⟩
      have HX5 := hid (HX4.out.on b5)
      have HS5 := hid (HS4.out.on b5)
      have HY5 := hid (HY4.out.on b5)
      clear b5 HX4 HS4 HY4 HZ4 HSH z0 z1 hQ4 HSM hoo
      generalize w4.heap.size = Q3 at *
      go_upto_if 145 with fail
      go_cut [23, 24, 25, 26, 27, 28, 29, 30, 31] (fun _ _ _ _ _ _ _ _ _ wd => S5 w l2 c2 a2 wd)
      case first =>
        as_aux_lemma =>
          cases ok
          · go_wp2_with fail
            go_meet
            case rel => exact HS5.out
          · obtain ⟨hg1, hg2, hsub, hone, hin⟩ := HWR.out rfl
            clear HWR
            obtain ⟨V, k1, CA0, -, hV, hVg⟩ := all_tells S L HLL.out
            obtain ⟨rfl, hVl, hVm, -⟩ := hVg hg1
            obtain ⟨V', k2, CB0, -, hV', hVg'⟩ := all_tells S' L' HY5.out.hg.1
            obtain ⟨rfl, hVl', hVm', -⟩ := hVg' hg2
            obtain ⟨ka, ia, hwh⟩ := whereH_of HY5.out.hg.1 hin
            have CW : Hid (∀ v, HG bS bL S' L' v → Calls Try.prog 15 #[.agg #[.slice bS S'.length jS, .slice bL L'.length jL], .int .i64 x] v fun e w' => e = .returned (.tuple #[.int .i64 (ka : Int), .int .i64 (ia : Int), .bool true]) ∧ Below v.heap.size v w') := fun v hv => by
              have h := iWhere_yes bS bL jS jL S' L' x v hv.1 hg2 hv.2.1 hv.2.2
              rw [hwh] at h
              exact h
            have CG : Hid (∀ v, HG bS bL S' L' v → Calls Try.prog 11 #[.agg #[.slice bS S'.length jS, .slice bL L'.length jL]] v fun e w' => e = .returned (.bool true) ∧ Below v.heap.size v w') := fun v hv => by
              have h := igoodH_any bS bL jS jL S' L' v hv.2.1 hv.2.2
              rw [hg2] at h
              exact h
            have CA := hid CA0
            have CB := hid CB0
            have HSUB : Hid (∀ y ∈ V, y ∈ V') := fun y hy => (hVm' y).2 (hsub y ((hVm y).1 hy))
            have hone2 : V'.length ≤ V.length + 1 := by omega
            clear CA0 CB0 hsub hone hin hwh hg1 hg2 hVl hVm hVl' hVm' hVg hVg'
            have y0 := box_cell HX5.out.box 0
            have y1 := box_cell HX5.out.box 1
            go_wp2_with fail
            refine (CA.out aS kS aL kL _ HX5.out.hg).mono ?_
            rintro e w6 ⟨bA, cA, rfl, hI6, b6⟩
            have HS6 := hid (HS5.out.on b6)
            have HY6 := hid (HY5.out.on b6)
            have HI6 := hid hI6
            clear hI6 b6 HX5 HS5 HY5 CA y0 y1
            have y0 := box_cell HY6.out.box 0
            have y1 := box_cell HY6.out.box 1
            go_wp2_with fail
            refine (CB.out bS jS bL jL _ HY6.out.hg).mono ?_
            rintro e w7 ⟨bB, cB, rfl, hJ7, b7⟩
            have HS7 := hid (HS6.out.on b7)
            have HY7 := hid (HY6.out.on b7)
            have HI7 := hid ((HI6.out.below b7).mono b7.size)
            have HJ7 := hid hJ7
            clear hJ7 b7 HS6 HY6 HI6 CB y0 y1
            have y0 := box_cell HY7.out.box 0
            have y1 := box_cell HY7.out.box 1
            go_wp2_with fail
            refine (CW.out _ HY7.out.hg).mono ?_
            rintro e w8 ⟨rfl, b8⟩
            have HS8 := hid (HS7.out.on b8)
            have HY8 := hid (HY7.out.on b8)
            have HI8 := hid ((HI7.out.below b8).mono b8.size)
            have HJ8 := hid ((HJ7.out.below b8).mono b8.size)
            clear b8 HS7 HY7 HI7 HJ7 CW y0 y1
            have y0 := box_cell HY8.out.box 0
            have y1 := box_cell HY8.out.box 1
            go_wp2_with fail
            refine (CG.out _ HY8.out.hg).mono ?_
            rintro e w9 ⟨rfl, b9⟩
            have HS9 := hid (HS8.out.on b9)
            have HI9 := hid ((HI8.out.below b9).mono b9.size)
            have HJ9 := hid ((HJ8.out.below b9).mono b9.size)
            clear b9 HS8 HY8 HI8 HJ8 CG y0 y1
            have hdl : decide ((1 : Int) < (V'.length : Int) - (V.length : Int)) = false := decide_eq_false (by omega)
            clear hone2
            go_wp2_with fail
            go_loop [188] (fun i => ∃ j : Nat, j ≤ V.length ∧ i = .int .i64 (j : Int)) (fun i => V.length - (intOf i).toNat)
            case atStart => exact ⟨0, Nat.zero_le _, rfl⟩
            case round =>
              obtain ⟨j, hj, rfl⟩ := hrel
              by_cases hlt : j < V.length
              · obtain ⟨b1, o1, e1, hb1, hc1⟩ := HI9.out.cell (by omega)
                subst e1
                have x0 := hc1 j hlt
                have hmem : V[j] ∈ V' := HSUB.out _ (List.getElem_mem hlt)
                have HC := hid (has_any bB cB V' V[j] w9 hV' HJ9.out)
                rw [decide_eq_true hmem] at HC
                clear hc1 hmem
                generalize V[j] = y at *
                go_wp2_with fail
                refine HC.out.mono ?_
                rintro e w10 ⟨rfl, hw10⟩
                subst hw10
                go_wp2_with fail
                go_round
                case rel => exact ⟨j + 1, by omega, by go_num⟩
                case measure => simp [intOf]; omega
              · go_wp2_with fail
                go_meet
                case rel => exact HS9.out
      case rest =>
        as_aux_lemma =>
          clear HX5 HS5 HY5 HWR HLL h6
          have HS := hid hcut
          clear hcut
          go_wp2_with fail
          refine (drawAll_any l2 c2 a2 _ HS.out.draw).mono ?_
          rintro e w6 ⟨aS, kS, aL, kL, S, L, rfl, h6, hg, hb⟩
          have HX6 := hid (HX.start hg kS kL)
          have HS6 := hid ((HS.out.on hb).on (boxB w6 (.cells #[.slice aS S.length kS, .slice aL L.length kL] 26)))
          obtain ⟨V, k1, CA0, CB0, hV, -⟩ := all_tells S L hg.1
          have CA := hid CA0
          have CB := hid CB0
          clear HS hb hg CA0 CB0
          go_wp2_with fail
          refine (CA.out aS kS aL kL _ HX6.out.hg).mono ?_
          rintro e w7 ⟨bA, cA, rfl, hI7, b7⟩
          have HX7 := hid (HX6.out.on b7)
          have HS7 := hid (HS6.out.on b7)
          have HI7 := hid hI7
          have y0 := box_cell HX7.out.box 0
          have y1 := box_cell HX7.out.box 1
          clear hI7 b7 HX6 HS6 CA
          generalize w6.heap.size = Q4 at *
          go_wp2_with fail
          refine (CB.out aS kS aL kL _ HX7.out.hg).mono ?_
          rintro e w8 ⟨bB, cB, rfl, hJ8, b8⟩
          have HS8 := hid (HS7.out.on b8)
          have HI8 := hid ((HI7.out.below b8).mono b8.size)
          have HSI := hid (sameInts_same bA bB cA cB V w8 hV HI8.out hJ8)
          clear hJ8 b8 HX7 HS7 HI7 HI8 CB y0 y1
          have hoo : (k1 == k1) = true := by simp
          go_wp2_with fail
          refine HSI.out.mono ?_
          rintro e w9 ⟨rfl, b9⟩
          have HS9 := hid (HS8.out.on b9)
          clear b9 HS8 HSI
          go_wp2_with fail
          go_ret
          exact ⟨rfl, HS9.out.below⟩
set_option maxHeartbeats 1000000 in
theorem picked_big (l1 c1 l2 c2 : Nat) (a1 a2 : Option Addr) (w : World) (h1 : l1 ≤ 4611686018427387903) (h2 : l2 ≤ 4611686018427387903) (h12 : ¬ l1 + l2 ≤ 1048576) :
    Calls Try.prog 4 #[.slice a1 l1 c1, .slice a2 l2 c2] w fun e w' => e = .returned (.bool true) ∧ Below w.heap.size w w' := by
  have hd : decide ((1048576 : Int) < (l1 : Int) + (l2 : Int)) = true := by simp; omega
  go_enter Try.func4, Try.ntmps4
  go_wp2_with fail
  go_ret
  exact ⟨rfl, Below.refl _ _⟩
end Go.Proofs.Ytpdcomlokcohjaa
