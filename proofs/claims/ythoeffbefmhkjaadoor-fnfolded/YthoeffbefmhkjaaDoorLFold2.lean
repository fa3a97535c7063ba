/- The law on folded records: its walk out of the contracts. -/
import Derived.Test.YthoeffbefmhkjaaDoorLFoldA
import Derived.Test.YthoeffbefmhkjaaDoorLRecs
import Derived.Deep.DeepCutAuto
import Derived.Deep.RegionHeld
import Derived.BigRegion
import Derived.Deep.QuietTactic
import Derived.BigQuiet
namespace Go.Proofs.YthoeffbefmhkjaaDoor
set_option maxRecDepth 100000
open Go.ChangeShapes Go.WideShapes Go.ChangeAt Go.RowKit G00541
set_option maxHeartbeats 8000000 in
theorem folded_small (l1 c1 l2 c2 : Nat) (a1 a2 : Option Addr) (w : World) (hT : Tab w) (h12 : l1 + l2 ≤ 1048576) (hK1 : Code w.heap.size l1 c1 a1 w) (hK2 : Code w.heap.size l2 c2 a2 w) :
    Calls Tryd.prog 4 #[.slice a1 l1 c1, .slice a2 l2 c2] w fun e w' => e = .returned (.bool true) ∧ Below w.heap.size w w' := by
  have hd : decide ((1048576 : Int) < (l1 : Int) + (l2 : Int)) = false := by simp; omega
  have HK1 : Hid (Code w.heap.size l1 c1 a1 w) := hK1
  have HK2 : Hid (∀ v, Below w.heap.size w v → Code v.heap.size l2 c2 a2 v) := fun v g => (hK2.below g).mono g.size
  have HT : Hid (∀ v, Below w.heap.size w v → Tab v) := fun v g => hT.below g
  clear hK1 hK2 hT
  go_enter Tryd.func4, Tryd.ntmps4
  go_wp2_with fail
  refine (drawFoldRecords_any l1 c1 a1 _ HK1.out).mono ?_
  rintro e w1 ⟨l, b, c, rfl, hl, hlc, _, ho, g1⟩
  have HR : Hid (∀ v, Below w1.heap.size w1 v → Rs v.heap.size b l v) := fun v g => (ho.rs.below g).mono g.size
  have HB1 : Hid (Below w.heap.size w w1) := g1
  clear ho g1 HK1
  obtain ⟨tI, tS⟩ := fold_tells l (by omega)
  have HI : Hid (TellsF 21 l (if foldOk l = true then foldR l else []) (foldOk l)) := tI
  have HS : Hid (TellsF 22 l (if foldOk l = true then foldR l else []) (foldOk l)) := tS
  have HV : Hid (foldOk l = true → (if foldOk l = true then foldR l else []) = foldR l ∧ goodL l = true ∧ l.length ≤ 60) := fun h => by
    rw [if_pos h]
    unfold foldOk at h
    rw [Bool.and_eq_true] at h
    exact ⟨rfl, h.1, of_decide_eq_true h.2⟩
  have hVl : (if foldOk l = true then foldR l else []).length ≤ 16 := by
    split
    · rw [foldR_len]; omega
    · simp
  clear tI tS
  generalize (if foldOk l = true then foldR l else []) = V at *
  generalize foldOk l = ok at *
  go_wp2_with fail
  refine (HI.out b c _ (HR.out _ (Below.refl _ _))).mono ?_
  rintro e w2 ⟨bF, cF, rfl, oF, g2⟩
  have HC2 : Hid (Below w1.heap.size w1 w2) := g2
  have HF : Hid (OwnS w1.heap.size w2.heap.size bF V w2) := oF
  clear oF g2 HI
  go_wp2_with fail
  refine (HS.out b c _ (HR.out _ HC2.out)).mono ?_
  rintro e w3 ⟨bW, cW, rfl, oW, g3⟩
  have HC3 : Hid (Below w1.heap.size w1 w3) := HC2.out.trans (g3.mono HC2.out.size)
  have HF3 : Hid (OwnS w1.heap.size w2.heap.size bF V w3) := HF.out.below g3
  have HW3 : Hid (Ss w3.heap.size bW V w3) := oW.ss
  clear oW g3 HS HF HC2
  go_wp2_with fail
  refine (sameTexts_same bF bW cF cW V _ (by omega) HF3.out.ss HW3.out).mono ?_
  rintro e w4 ⟨rfl, g4⟩
  have HC4 : Hid (Below w1.heap.size w1 w4) := HC3.out.trans (g4.mono HC3.out.size)
  have HF4 : Hid (OwnS w1.heap.size w2.heap.size bF V w4) := HF3.out.below g4
  clear g4 HF3 HW3 HC3
  go_upto_region 8 with fail
  go_cut [62] (fun s62 wc => s62 = .bool (decide (ok = true ∧ 0 < l.length)) ∧ wc = w4)
  case first =>
    as_aux_lemma =>
      cases ok
      · go_wp2_with fail
        go_meet
        case rel => exact ⟨by simp, rfl⟩
      · by_cases h0 : 0 < l.length
        · have hd0 : decide ((0 : Int) < (l.length : Int)) = true := decide_eq_true (by omega)
          go_wp2_with fail
          go_meet
          case rel => exact ⟨by simp; omega, rfl⟩
        · have hd0 : decide ((0 : Int) < (l.length : Int)) = false := decide_eq_false (by omega)
          go_wp2_with fail
          go_meet
          case rel => exact ⟨by rw [List.eq_nil_of_length_eq_zero (show l.length = 0 by omega)]; simp, rfl⟩
  case rest =>
    as_aux_lemma =>
      obtain ⟨rfl, hw4⟩ := hcut
      subst hw4
      go_upto_if 62 with fail
      go_cut [4, 5, 6, 8] (fun _ _ _ _ wd => Below w.heap.size w wd)
      case first =>
        as_aux_lemma =>
          by_cases h : ok = true ∧ 0 < l.length
          case neg =>
            have hd : decide (ok = true ∧ 0 < l.length) = false := decide_eq_false h
            go_wp2_with fail
            go_meet
            case rel => exact HB1.out.trans (HC4.out.mono HB1.out.size)
          have hdc : decide (ok = true ∧ 0 < l.length) = true := decide_eq_true h
          rw [hdc]
          clear hdc
          obtain ⟨rfl, h0⟩ := h
          obtain ⟨eV, hgl, h60⟩ := HV.out rfl
          subst eV
          obtain ⟨L, r, rfl⟩ : ∃ L r, l = L ++ [r] := by
            rcases List.eq_nil_or_concat l with h | ⟨L, r, h⟩
            · rw [h] at h0; simp at h0
            · exact ⟨L, r, by rw [h, List.concat_eq_append]⟩
          have hgr : goodR r = true := List.all_eq_true.1 hgl r (by simp)
          have hgL : goodL L = true := List.all_eq_true.2 fun x hx => List.all_eq_true.1 hgl x (by simp [hx])
          have eL : (L ++ [r]).length = L.length + 1 := by simp
          have hFl := foldR_len (L ++ [r])
          have hGl := foldR_len L
          rw [eL] at hl hlc h60
          have hokL : foldOk L = true := by unfold foldOk; rw [hgL, decide_eq_true (by omega)]; rfl
          have HIL : Hid (∀ w, Rs w.heap.size b L w → Calls Tryd.prog 21 #[.slice b L.length c] w fun e w' => ∃ R x, e = .returned (.tuple #[.slice (some ⟨R, 0, none⟩) 16 x, .bool true]) ∧ w.heap.size ≤ R ∧ SRow R (foldR L) w' ∧ Below w.heap.size w w') := fun v hv => by
            have t := (fold_tells L (by omega)).1 b c v hv
            rw [hokL, if_pos rfl, hGl] at t
            refine t.mono ?_
            rintro e w' ⟨d, x, rfl, hO | ⟨R, h1, h2, rfl, hrow⟩, g⟩
            · rw [hO] at hGl; simp at hGl
            · exact ⟨R, x, rfl, h1, hrow, g⟩
          obtain ⟨RF, hRF, eF, hrF⟩ : ∃ RF, RF < wc.heap.size ∧ bF = some ⟨RF, 0, none⟩ ∧ SRow RF (foldR (L ++ [r])) wc := by
            rcases HF4.out with hO | ⟨R, h1, h2, e, hrow⟩
            · rw [hO] at hFl; simp at hFl
            · exact ⟨R, hrow.lt, e, hrow⟩
          subst eF
          have HFC : Hid (∀ v, Below wc.heap.size wc v → ∀ q, q < 16 → v.cell? ⟨RF, q, none⟩ = some (.string ((foldR (L ++ [r])).getD q ⟨#[]⟩))) := fun v g q hq => srow_getD (hrF.below g) q (by omega)
          have HRL : Hid (∀ v, Below w1.heap.size w1 v → Rs v.heap.size b L v) := fun v g => by
            have := (HR.out v g).take L.length
            rwa [List.take_left] at this
          obtain ⟨b0, o0, eb, _, _⟩ := (HR.out _ HC4.out).cell (by rw [eL]; omega)
          subst eb
          have HRr : Hid (∀ v, Below w1.heap.size w1 v → v.cell? ⟨b0, o0 + L.length * 4, none⟩ = some (.int .i64 r.kind) ∧ v.cell? ⟨b0, o0 + L.length * 4 + 1, none⟩ = some (.int .i64 r.place) ∧ v.cell? ⟨b0, o0 + L.length * 4 + 2, none⟩ = some (.int .i64 r.long) ∧ v.cell? ⟨b0, o0 + L.length * 4 + 3, none⟩ = some (.string (str r.data))) := fun v g => by
            obtain ⟨b', o', e', _, hc⟩ := (HR.out v g).cell (by rw [eL]; omega)
            cases e'
            have := hc L.length (by rw [eL]; omega)
            rwa [List.getElem_concat_length rfl] at this
          obtain ⟨B, hBl, tB, _, hBe⟩ := blocks_tells r.kind r.place r.long (str r.data)
          have hgr' : goodR ⟨r.kind, r.place, r.long, (str r.data).data.toList⟩ = true := by rw [str_list]; exact hgr
          rw [hgr'] at tB
          have HBT : Hid (TellsN 24 r.kind r.place r.long (str r.data) B true) := tB
          have hBe' := hBe hgr'
          have HOUT : Hid (∀ q : Nat, ¬ (q : Int) ∈ B → (foldR (L ++ [r])).getD q ⟨#[]⟩ = (foldR L).getD q ⟨#[]⟩) := fun q h => fold_out L r q hgr (by rw [← hBe']; exact h)
          have hcs := good_cases hgr
          have HIN : Hid (∀ i (hi : i < B.length), ∃ q : Nat, B[i] = (q : Int) ∧ q < 16 ∧ (r.kind = 1 → 2 * i + 2 ≤ (str r.data).size ∧ (foldR (L ++ [r])).getD q ⟨#[]⟩ = (str r.data).extract (2 * i) (2 * i + 2)) ∧ (r.kind = 2 → (foldR (L ++ [r])).getD q ⟨#[]⟩ = zz) ∧ (r.kind = 1 ∨ r.kind = 2)) := fun i hi => by
            subst hBe'
            rw [blocksL_len] at hi
            have hf := fold_in L r i hgr hi
            refine ⟨r.place.toNat + i, by rw [blocks_at]; omega, by omega, fun hk => ⟨by rw [str_size]; omega, by rw [hf, hk, pieceT_one]⟩, fun hk => by rw [hf, pieceT_else (by omega)], by omega⟩
          have HBB1 : Hid (Below w.heap.size w w1) := HB1.out
          clear tB hBe hBe' hgr' hrF hgl hgL hokL HF4 HV hcs HR
          have hcut := cut_recs (some ⟨b0, o0, none⟩) (L.length + 1) L.length c (by omega)
          generalize foldR (L ++ [r]) = F at *
          generalize foldR L = G at *
          rw [hFl]
          rw [eL]
          clear eL h0
          go_wp2_with fail
          refine (HIL.out _ (HRL.out _ HC4.out)).mono ?_
          rintro e w5 ⟨RG, cG, rfl, hRG, hrG, g5⟩
          have HC5 : Hid (Below w1.heap.size w1 w5) := HC4.out.trans (g5.mono HC4.out.size)
          have HD5 : Hid (Below wc.heap.size wc w5) := g5
          have HGC : Hid (∀ v, Below w5.heap.size w5 v → ∀ q, q < 16 → v.cell? ⟨RG, q, none⟩ = some (.string (G.getD q ⟨#[]⟩))) := fun v g q hq => srow_getD (hrG.below g) q (by omega)
          obtain ⟨k0, k1, k2, k3⟩ := HRr.out _ HC5.out
          have HRC : Hid (RC w5.heap.size r.kind r.place r.long (str r.data) (w5.alloc (.cells #[.int .i64 r.kind, .int .i64 r.place, .int .i64 r.long, .string (str r.data)] 36))) := RC.made _ _ _ _ _ _
          have HE5 : Hid (Below w5.heap.size w5 (w5.alloc (.cells #[.int .i64 r.kind, .int .i64 r.place, .int .i64 r.long, .string (str r.data)] 36))) := (Below.refl _ _).alloc (Nat.le_refl _) _
          clear g5 hrG HIL HRL HRr
          generalize hkk : r.kind = rk at *
          generalize r.place = rp at *
          generalize r.long = rn at *
          generalize str r.data = rD at *
          generalize hW : w5.alloc (.cells #[.int .i64 rk, .int .i64 rp, .int .i64 rn, .string rD] 36) = v5 at HRC HE5
          generalize hX : w5.heap.size = X1 at HRC
          go_upto_region 11 with fail
          clear hW hX
          have q0 := HRC.out.c0
          have q1 := HRC.out.c1
          have q2 := HRC.out.c2
          have q3 := HRC.out.c3
          go_wp2_with fail
          refine (HBT.out _).mono ?_
          rintro e w6 ⟨bB, cB, rfl, oB, g6⟩
          have HRC6 : Hid (RC X1 rk rp rn rD w6) := HRC.out.below g6
          have HE6 : Hid (Below w5.heap.size w5 w6) := HE5.out.trans (g6.mono HE5.out.size)
          have HIS : Hid (∀ v, Below w6.heap.size w6 v → Is v.heap.size bB B v) := fun v g => (oB.is.below g).mono g.size
          have HFX : Hid (∀ v, Below w6.heap.size w6 v → ∀ q, q < 16 → v.cell? ⟨RF, q, none⟩ = some (.string (F.getD q ⟨#[]⟩))) := fun v g q hq => HFC.out v (HD5.out.trans ((HE6.out.mono HD5.out.size).trans (g.mono (Nat.le_trans HD5.out.size HE6.out.size)))) q hq
          have HGX : Hid (∀ v, Below w6.heap.size w6 v → ∀ q, q < 16 → v.cell? ⟨RG, q, none⟩ = some (.string (G.getD q ⟨#[]⟩))) := fun v g q hq => HGC.out v (HE6.out.trans (g.mono HE6.out.size)) q hq
          have HB6 : Hid (Below w.heap.size w w6) := (HBB1.out.trans (HC5.out.mono HBB1.out.size)).trans (HE6.out.mono (Nat.le_trans HBB1.out.size HC5.out.size))
          clear oB g6 HRC HE5 HFC HGC HC4 HC5 HD5 HE6 HB1 HBB1 HBT q0 q1 q2 q3 k0 k1 k2 k3 hcut
          go_wp2_with fail
          go_loopw [91] (fun i wr => ∃ k : Nat, k ≤ 16 ∧ i = .int .i64 k ∧ Below w6.heap.size w6 wr) (fun i _ => 16 - (intOf i).toNat)
          case atStart => exact ⟨0, by omega, rfl, Below.refl _ _⟩
          case round =>
            obtain ⟨k, hk, rfl, hbel⟩ := hrel
            have HBEL : Hid (Below w6.heap.size w6 wr) := hbel
            clear hbel
            by_cases hlt : k < 16
            · have hdl : decide ((k : Int) < 16) = true := decide_eq_true (by omega)
              have f0 := HFX.out _ HBEL.out k hlt
              have f1 := HGX.out _ HBEL.out k hlt
              have HI : Hid (Is wr.drew.heap.size bB B wr.drew) := HIS.out _ HBEL.out.drew
              by_cases hin : (k : Int) ∈ B
              · have hdi : decide ((k : Int) ∈ B) = true := decide_eq_true hin
                have HBN : Hid (∀ n, Below w6.heap.size w6 (wr.drewN n)) := fun n => by
                  have t := HBEL.out
                  exact ⟨t.os, t.tape, t.output, t.size, t.block⟩
                have HI0 : Hid (∀ n, Is (wr.drewN n).heap.size bB B (wr.drewN n)) := fun n => HIS.out _ (HBN.out n)
                have HH : Hid (∀ v, Is v.heap.size bB B v → Calls Tryd.prog 25 #[.slice bB B.length cB, .int .i64 (k : Int)] v fun e w' => e = .returned (.bool true) ∧ w' = v) := fun v hv => by
                  have := has_any bB cB B (k : Int) v (by omega) hv
                  rw [hdi] at this
                  exact this
                clear hdi
                go_wp2_with fail
                go_quiet ((go_at_call 25; exact Calls.quiet_of_same (HH.out _ (HI0.out _))))
                all_goals
                  go_wp2_with fail
                  go_roundw
                  case rel => exact ⟨k + 1, by omega, by go_num, by first | exact HBN.out _ | exact HBEL.out.drew | exact HBEL.out⟩
                  case measure => simp [intOf]; omega
              · have hdi : decide ((k : Int) ∈ B) = false := decide_eq_false hin
                rw [← HOUT.out k hin] at f1
                generalize F.getD k ⟨#[]⟩ = E at f0 f1
                go_wp2_with fail
                go_region_held (fun v => v.cell? ⟨RF, k, none⟩ = some (.string E) ∧ v.cell? ⟨RG, k, none⟩ = some (.string E)) (go_keep) ((go_at_call 25; refine (has_any bB cB B k _ (by omega) HI.out).mono ?_; rintro e w7 ⟨rfl, rfl⟩))
                all_goals
                  go_wp2_with fail
                  go_roundw
                  case rel => exact ⟨k + 1, by omega, by go_num, HBEL.out.drew⟩
                  case measure => simp [intOf]; omega
            · have hdl : decide ((k : Int) < 16) = false := decide_eq_false (by omega)
              go_wp2_with fail
              go_loopw [112] (fun i wr => ∃ k : Nat, k ≤ B.length ∧ i = .int .i64 k ∧ Below w6.heap.size w6 wr) (fun i _ => B.length - (intOf i).toNat)
              case atStart => exact ⟨0, by omega, rfl, HBEL.out⟩
              case round =>
                obtain ⟨i, hi, rfl, hbel2⟩ := hrel
                have HB2 : Hid (Below w6.heap.size w6 wr) := hbel2
                clear hbel2
                by_cases hlt2 : i < B.length
                case neg =>
                  have hd2 : decide ((i : Int) < (B.length : Int)) = false := decide_eq_false (by omega)
                  go_wp2_with fail
                  go_meet
                  case rel => exact HB6.out.trans (HB2.out.mono HB6.out.size)
                have hd2 : decide ((i : Int) < (B.length : Int)) = true := decide_eq_true (by omega)
                obtain ⟨q, eq, hq16, h1, h2, h3⟩ := HIN.out i hlt2
                obtain ⟨bb, ob, ebb, hbb, hcB⟩ := (HIS.out _ HB2.out).cell (by omega)
                subst ebb
                have x0 := hcB i hlt2
                rw [eq] at x0
                have HRC7 : Hid (RC X1 rk rp rn rD wr) := HRC6.out.below HB2.out
                have r0 := HRC7.out.c0
                have r3 := HRC7.out.c3
                have f0 := HFX.out _ HB2.out q hq16
                clear hcB eq
                rcases h3 with hk1 | hk2
                · subst hk1
                  obtain ⟨hsz, hv⟩ := h1 rfl
                  rw [hv] at f0
                  have hsl := fun v => cut_at rD (2 * i) (2 * i + 2) (2 * (i : Int)) (2 * (i : Int) + 2) (by omega) (by omega) (by omega) hsz v
                  have hw1 : IntKind.i64.wrap (2 * (i : Int)) = 2 * (i : Int) := by rw [IntKind.wrap_i64]; omega
                  have hw2 : IntKind.i64.wrap (2 * (i : Int) + 2) = 2 * (i : Int) + 2 := by rw [IntKind.wrap_i64]; omega
                  generalize rD.extract (2 * i) (2 * i + 2) = E at f0 hsl
                  clear h1 h2 hv
                  go_wp2_with fail
                  go_big_region
                  all_goals
                    go_wp2_with fail
                    go_roundw
                    case rel => exact ⟨i + 1, by omega, by go_num, HB2.out.drew⟩
                    case measure => simp [intOf]; omega
                · subst hk2
                  rw [h2 rfl] at f0
                  unfold zz at f0
                  clear h1 h2
                  go_wp2_with fail
                  go_big_region
                  all_goals
                    go_wp2_with fail
                    go_roundw
                    case rel => exact ⟨i + 1, by omega, by go_num, HB2.out.drew⟩
                    case measure => simp [intOf]; omega
      case rest =>
        as_aux_lemma =>
          have HB : Hid (Below w.heap.size w wc) := hcut
          clear hcut
          go_wp2_with fail
          refine (drawRecordText_any l2 c2 a2 _ (HK2.out _ HB.out)).mono ?_
          rintro e w4 ⟨r, rfl, _, g4⟩
          have HB4 : Hid (Below w.heap.size w w4) := HB.out.trans (g4.mono HB.out.size)
          clear g4 HB
          unfold rval
          generalize r.kind = rk
          generalize r.place = rp
          generalize r.long = rn
          generalize str r.data = rD
          have HRC : Hid (RC w4.heap.size rk rp rn rD (w4.alloc (.cells #[.int .i64 rk, .int .i64 rp, .int .i64 rn, .string rD] 36))) := RC.made _ _ _ _ _ _
          have HB5 : Hid (Below w.heap.size w (w4.alloc (.cells #[.int .i64 rk, .int .i64 rp, .int .i64 rn, .string rD] 36))) := HB4.out.alloc HB4.out.size _
          clear HB4
          obtain ⟨X, hX, tI, tS, tR⟩ := text_tells rk rp rn rD
          obtain ⟨B, hBl, bI, bS, _⟩ := blocks_tells rk rp rn rD
          have HG : Hid (∀ v, Calls Tryd.prog 30 #[.agg #[.int .i64 rk, .int .i64 rp, .int .i64 rn, .string rD]] v fun e w' => e = .returned (.bool (goodR ⟨rk, rp, rn, rD.data.toList⟩)) ∧ Below v.heap.size v w') := fun v => igood_any rk rp rn rD v
          generalize goodR ⟨rk, rp, rn, rD.data.toList⟩ = one at *
          have HTI : Hid (∀ w, Tab w → Calls Tryd.prog 19 #[.agg #[.int .i64 rk, .int .i64 rp, .int .i64 rn, .string rD]] w fun x w' => x = .returned (.tuple #[.string X, .bool one]) ∧ Below w.heap.size w w') := tI
          have HTS : Hid (∀ w, Calls Tryd.prog 27 #[.agg #[.int .i64 rk, .int .i64 rp, .int .i64 rn, .string rD]] w fun x w' => x = .returned (.tuple #[.string X, .bool one]) ∧ Below w.heap.size w w') := tS
          have HTR : Hid (one = true → ∀ w, Tab w → Calls Tryd.prog 17 #[.string X, .int .i64 0] w fun x w' => x = .returned (.tuple #[.agg #[.int .i64 rk, .int .i64 rp, .int .i64 rn, .string rD], .int .i64 X.size, .bool true]) ∧ Below w.heap.size w w') := tR
          have HBI : Hid (TellsN 24 rk rp rn rD B one) := bI
          have HBS : Hid (TellsN 28 rk rp rn rD B one) := bS
          clear tI tS tR bI bS
          generalize hW : w4.alloc (.cells #[.int .i64 rk, .int .i64 rp, .int .i64 rn, .string rD] 36) = w5 at HRC HB5
          generalize hXX : w4.heap.size = X1 at HRC
          go_upto_region 27 with fail
          clear hW hXX
          have q0 := HRC.out.c0
          have q1 := HRC.out.c1
          have q2 := HRC.out.c2
          have q3 := HRC.out.c3
          go_wp2_with fail
          refine (HTI.out _ (HT.out _ HB5.out)).mono ?_
          rintro e w6 ⟨rfl, g6⟩
          have HRC6 : Hid (RC X1 rk rp rn rD w6) := HRC.out.below g6
          have HB6 : Hid (Below w.heap.size w w6) := HB5.out.trans (g6.mono HB5.out.size)
          clear q0 q1 q2 q3 g6 HRC HB5 HTI
          have q0 := HRC6.out.c0
          have q1 := HRC6.out.c1
          have q2 := HRC6.out.c2
          have q3 := HRC6.out.c3
          go_wp2_with fail
          refine (HTS.out _).mono ?_
          rintro e w7 ⟨rfl, g7⟩
          have HRC7 : Hid (RC X1 rk rp rn rD w7) := HRC6.out.below g7
          have HB7 : Hid (Below w.heap.size w w7) := HB6.out.trans (g7.mono HB6.out.size)
          clear q0 q1 q2 q3 g7 HRC6 HB6 HTS
          have q0 := HRC7.out.c0
          have q1 := HRC7.out.c1
          have q2 := HRC7.out.c2
          have q3 := HRC7.out.c3
          go_wp2_with fail
          refine (HBI.out _).mono ?_
          rintro e w8 ⟨b8, c8, rfl, o8, g8⟩
          have HRC8 : Hid (RC X1 rk rp rn rD w8) := HRC7.out.below g8
          have HB8 : Hid (Below w.heap.size w w8) := HB7.out.trans (g8.mono HB7.out.size)
          have HI8 : Hid (∀ v, Below w8.heap.size w8 v → Is v.heap.size b8 B v) := fun v g => (o8.is.below g).mono g.size
          clear q0 q1 q2 q3 g8 o8 HRC7 HB7 HBI
          have q0 := HRC8.out.c0
          have q1 := HRC8.out.c1
          have q2 := HRC8.out.c2
          have q3 := HRC8.out.c3
          go_wp2_with fail
          refine (HBS.out _).mono ?_
          rintro e w9 ⟨b9, c9, rfl, o9, g9⟩
          have HRC9 : Hid (RC X1 rk rp rn rD w9) := HRC8.out.below g9
          have HB9 : Hid (Below w.heap.size w w9) := HB8.out.trans (g9.mono HB8.out.size)
          have HP8 : Hid (Is w9.heap.size b8 B w9) := HI8.out _ g9
          have HP9 : Hid (Is w9.heap.size b9 B w9) := o9.is
          clear q0 q1 q2 q3 g9 o9 HRC8 HB8 HBS HI8
          go_wp2_with fail
          refine (sameInts_same b8 b9 c8 c9 B _ (by omega) HP8.out HP9.out).mono ?_
          rintro e w10 ⟨rfl, g10⟩
          have HRC10 : Hid (RC X1 rk rp rn rD w10) := HRC9.out.below g10
          have HB10 : Hid (Below w.heap.size w w10) := HB9.out.trans (g10.mono HB9.out.size)
          clear g10 HRC9 HB9 HP8 HP9
          have q0 := HRC10.out.c0
          have q1 := HRC10.out.c1
          have q2 := HRC10.out.c2
          have q3 := HRC10.out.c3
          go_wp2_with fail
          refine (HG.out _).mono ?_
          rintro e w11 ⟨rfl, g11⟩
          have HRC11 : Hid (RC X1 rk rp rn rD w11) := HRC10.out.below g11
          have HB11 : Hid (Below w.heap.size w w11) := HB10.out.trans (g11.mono HB10.out.size)
          clear q0 q1 q2 q3 g11 HRC10 HB10 HG
          cases one
          · go_wp2
            go_ret
            exact ⟨rfl, HB11.out⟩
          · have HTR' : Hid (∀ w, Tab w → Calls Tryd.prog 17 #[.string X, .int .i64 0] w fun x w' => x = .returned (.tuple #[.agg #[.int .i64 rk, .int .i64 rp, .int .i64 rn, .string rD], .int .i64 X.size, .bool true]) ∧ Below w.heap.size w w') := HTR.out rfl
            clear HTR
            go_wp2_with fail
            refine (HTR'.out _ (HT.out _ HB11.out)).mono ?_
            rintro e w12 ⟨rfl, g12⟩
            have HB12 : Hid (Below w.heap.size w w12) := HB11.out.trans (g12.mono HB11.out.size)
            have HRA : Hid (RC X1 rk rp rn rD (w12.alloc (.cells #[.int .i64 rk, .int .i64 rp, .int .i64 rn, .string rD] 36))) := (HRC11.out.below g12).below ((Below.refl _ _).alloc (Nat.le_refl _) _)
            have HRB : Hid (RC w12.heap.size rk rp rn rD (w12.alloc (.cells #[.int .i64 rk, .int .i64 rp, .int .i64 rn, .string rD] 36))) := RC.made _ _ _ _ _ _
            have HBZ : Hid (Below w.heap.size w (w12.alloc (.cells #[.int .i64 rk, .int .i64 rp, .int .i64 rn, .string rD] 36))) := HB12.out.alloc HB12.out.size _
            clear g12 HB12 HB11 HRC11 HTR'
            generalize hW : w12.alloc (.cells #[.int .i64 rk, .int .i64 rp, .int .i64 rn, .string rD] 36) = w13 at HRA HRB HBZ
            generalize hXX : w12.heap.size = X2 at HRB
            go_upto_region 35 with fail
            clear hW hXX
            have q0 := HRA.out.c0
            have q1 := HRA.out.c1
            have q2 := HRA.out.c2
            have q3 := HRA.out.c3
            have q4 := HRB.out.c0
            have q5 := HRB.out.c1
            have q6 := HRB.out.c2
            have q7 := HRB.out.c3
            go_wp2
            go_ret
            exact ⟨rfl, HBZ.out⟩
end Go.Proofs.YthoeffbefmhkjaaDoor
