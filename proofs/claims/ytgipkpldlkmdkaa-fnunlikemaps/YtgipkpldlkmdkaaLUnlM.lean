/- The law on maps that are unlike, trimmed and shifted: its walk out of the contracts. -/
import Derived.Test.YtgipkpldlkmdkaaUMath
import Derived.Deep.DeepCutAuto
import Derived.Deep.QuietTactic
import Derived.BigQuiet
namespace Go.Proofs.Ytgipkpldlkmdkaa
set_option maxRecDepth 100000
open Go.ChangeShapes Go.WideShapes Go.ChangeAt Go.RowKit G00541
theorem belowN (w : World) (n : Nat) : Below w.heap.size w (w.drewN n) := ⟨rfl, rfl, rfl, Nat.le_refl _, fun _ _ => rfl⟩
set_option maxHeartbeats 8000000 in
theorem unls_small (l1 c1 l2 c2 : Nat) (a1 a2 : Option Addr) (w : World) (h12 : l1 + l2 ≤ 1048576) (hK1 : Code w.heap.size l1 c1 a1 w) (hK2 : Code w.heap.size l2 c2 a2 w) :
    Calls Try.prog 4 #[.slice a1 l1 c1, .slice a2 l2 c2] w fun e w' => e = .returned (.bool true) ∧ Below w.heap.size w w' := by
  have hd : decide ((1048576 : Int) < (l1 : Int) + (l2 : Int)) = false := by simp; omega
  have HK1 := hid hK1
  have HS : Hid (Sm w [] [] l2 c2 a2 w) := ⟨Below.refl _ _, hK2, (fun _ h => by cases h), (fun _ h => by cases h)⟩
  clear hK1 hK2
  go_enter Try.func4, Try.ntmps4
  go_wp2_with fail
  refine (drawUnlike_any l1 c1 a1 _ HK1.out).mono ?_
  rintro e w1 ⟨l, m, b, c, b', c', rfl, hl, hm, hbl, hbm, hx, hy, hb⟩
  have HS1 : Hid (Sm w [(b', m), (b, l)] [] l2 c2 a2 w1) := ((HS.out.on hb).addX hx).addX hy
  obtain ⟨U, ok, hU, hok, hyes, TS, TI⟩ := unl_tells l m (by omega) (by omega) hbl hbm
  have HOK := hid hok
  have HYES := hid hyes
  have HTS := hid TS
  have HTI := hid TI
  have HBL := hid hbl
  have HBM := hid hbm
  clear HS HK1 hb hx hy hok hyes TS TI hbl hbm
  go_wp2_with fail
  refine (HTI.out b c b' c' _ (HS1.out.x b l (by simp)) (HS1.out.x b' m (by simp))).mono ?_
  rintro e w2 ⟨b2, d2, rfl, hx, hb⟩
  have HS2 : Hid (Sm w [(b', m), (b, l)] [(b2, U)] l2 c2 a2 w2) := (HS1.out.on hb).addI hx
  clear HS1 hb hx HTI
  go_wp2_with fail
  refine (HTS.out b c b' c' _ (HS2.out.x b l (by simp)) (HS2.out.x b' m (by simp))).mono ?_
  rintro e w3 ⟨b3, d3, rfl, hx, hb⟩
  have HS3 : Hid (Sm w [(b', m), (b, l)] [(b3, U), (b2, U)] l2 c2 a2 w3) := (HS2.out.on hb).addI hx
  clear HS2 hb hx HTS
  go_wp2_with fail
  refine (sameInts_same b2 b3 d2 d3 U _ (by omega) (HS3.out.i b2 U (by simp)) (HS3.out.i b3 U (by simp))).mono ?_
  rintro e w4 ⟨rfl, hb⟩
  have HS4 : Hid (Sm w [(b', m), (b, l)] [(b3, U), (b2, U)] l2 c2 a2 w4) := HS3.out.on hb
  clear HS3 hb
  go_upto_if 75 with fail
  go_cut [] (fun wd => Sm w [] [] l2 c2 a2 wd)
  case first =>
    as_aux_lemma =>
      cases ok
      · go_wp2_with fail
        go_meet
        case rel => exact HS4.out.bare
      · obtain ⟨hgl, hgm⟩ := HOK.out rfl
        obtain ⟨-, rfl⟩ := HYES.out hgl hgm
        obtain ⟨P, okp, _, hpg, _, TP⟩ := places_tells l (by omega) HBL.out
        obtain ⟨rfl, rfl⟩ := hpg hgl
        obtain ⟨Q, okq, _, hqg, _, TQ⟩ := places_tells m (by omega) HBM.out
        obtain ⟨rfl, rfl⟩ := hqg hgm
        obtain ⟨U2, ok2, _, _, hu2, _, TU⟩ := unl_tells m l (by omega) (by omega) HBM.out HBL.out
        obtain ⟨rfl, hU2⟩ := hu2 hgm hgl
        rw [diffs_sym] at hU2
        subst hU2
        have HTP := hid TP
        have HTQ := hid TQ
        have HTU := hid TU
        have HLEN := hid (diffs_len_beq l m hgl hgm)
        have HMEM := hid (diffs_mem (plN l) (plN m) 16)
        clear hpg hqg hu2 TP TQ TU hgl hgm HOK HYES HBL HBM
        generalize diffs (plN l) (plN m) 16 = U at *
        go_wp2_with fail
        refine (HTP.out b c _ (HS4.out.x b l (by simp))).mono ?_
        rintro e w5 ⟨b5, d5, rfl, hx, hb⟩
        rw [tab_len]
        have HS5 : Hid (Sm w [(b', m), (b, l)] [(b5, tab (plN l)), (b3, U), (b2, U)] l2 c2 a2 w5) := (HS4.out.on hb).addI hx
        clear HS4 hb hx HTP
        go_wp2_with fail
        refine (HTQ.out b' c' _ (HS5.out.x b' m (by simp))).mono ?_
        rintro e w6 ⟨b6, d6, rfl, hx, hb⟩
        rw [tab_len]
        have HS6 : Hid (Sm w [(b', m), (b, l)] [(b6, tab (plN m)), (b5, tab (plN l)), (b3, U), (b2, U)] l2 c2 a2 w6) := (HS5.out.on hb).addI hx
        clear HS5 hb hx HTQ
        go_wp2_with fail
        refine (HTU.out b' c' b c _ (HS6.out.x b' m (by simp)) (HS6.out.x b l (by simp))).mono ?_
        rintro e w7 ⟨b7, d7, rfl, hx, hb⟩
        have HS7 : Hid (Sm w [(b', m), (b, l)] [(b7, U), (b6, tab (plN m)), (b5, tab (plN l)), (b3, U), (b2, U)] l2 c2 a2 w7) := (HS6.out.on hb).addI hx
        clear HS6 hb hx HTU
        go_wp2_with fail
        refine (sameInts_same b7 b2 d7 d2 U _ (by omega) (HS7.out.i b7 U (by simp)) (HS7.out.i b2 U (by simp))).mono ?_
        rintro e w8 ⟨rfl, hb⟩
        have HS8 := hid (HS7.out.on hb)
        clear HS7 hb
        have hlen := HLEN.out
        go_wp2_with fail
        refine (sameMap_any b b' c c' l m _ (by omega) (HS8.out.x b l (by simp)) (HS8.out.x b' m (by simp))).mono ?_
        rintro e w9 ⟨rfl, hb⟩
        have HS9 := hid (HS8.out.on hb)
        clear HS8 hb HLEN
        generalize decide (l = m) = same at *
        go_wp2_with fail
        go_loopw [119] (fun i wr => ∃ k : Nat, k ≤ 16 ∧ i = .int .i64 k ∧ Sm w [(b', m), (b, l)] [(b7, U), (b6, tab (plN m)), (b5, tab (plN l)), (b3, U), (b2, U)] l2 c2 a2 wr) (fun i _ => 16 - (intOf i).toNat)
        case atStart => exact ⟨0, Nat.zero_le _, rfl, HS9.out⟩
        case round =>
          clear HS9 hlen
          obtain ⟨k, hk, rfl, hsm⟩ := hrel
          have HSR := hid hsm
          clear hsm
          by_cases hlk : k < 16
          · obtain ⟨ba, oa, rfl, _, hc5⟩ := (HSR.out.i b5 (tab (plN l)) (by simp)).cell (by rw [tab_len]; omega)
            obtain ⟨bb, ob, rfl, _, hc6⟩ := (HSR.out.i b6 (tab (plN m)) (by simp)).cell (by rw [tab_len]; omega)
            have y0 := hc5 k (by rw [tab_len]; exact hlk)
            have z0 := hc6 k (by rw [tab_len]; exact hlk)
            rw [tab_at] at y0 z0
            have hmem := HMEM.out k hlk
            have HI0 : Hid (∀ n, Is (wr.drewN n).heap.size b2 U (wr.drewN n)) := fun n => (HSR.out.on (belowN wr n)).i b2 U (by simp)
            have hk2 : (k : Int) < 16 := by omega
            clear hc5 hc6
            generalize plN l k = zl at *
            generalize plN m k = zm at *
            have HH : Hid (∀ v, Is v.heap.size b2 U v → Calls Try.prog 24 #[.slice b2 U.length d2, .int .i64 (k : Int)] v fun e w' => e = .returned (.bool (zl != zm)) ∧ w' = v) := fun v hv => by
              have := has_any b2 d2 U (k : Int) v (by omega) hv
              rw [hmem] at this
              exact this
            clear hmem
            by_cases hq : zl = zm
            · subst hq
              have hne : (zl != zl) = false := by simp
              rw [hne] at HH
              go_wp2_with fail
              go_quiet ((go_at_call 24; exact Calls.quiet_of_same (HH.out _ (HI0.out _))))
              all_goals
                have HS8 := hid (HSR.out.on (belowN wr nq))
                generalize hW1 : wr.drewN nq = w1 at *
                clear hW1 y0 z0 HSR HH HI0 HMEM
                go_wp2
                go_roundw
                case rel => exact ⟨k + 1, by omega, by go_num, HS8.out⟩
                case measure => simp [intOf]; omega
            · have hne : (zl != zm) = true := bne_iff_ne.2 hq
              have hne2 : (zl == zm) = false := by rw [beq_eq_false_iff_ne]; exact hq
              rw [hne] at HH
              go_wp2_with fail
              go_quiet ((go_at_call 24; exact Calls.quiet_of_same (HH.out _ (HI0.out _))))
              all_goals
                have HS8 := hid (HSR.out.on (belowN wr nq))
                generalize hW1 : wr.drewN nq = w1 at *
                clear hW1 y0 z0 HSR HH HI0 HMEM
                go_wp2
                go_roundw
                case rel => exact ⟨k + 1, by omega, by go_num, HS8.out⟩
                case measure => simp [intOf]; omega
          · go_wp2
            go_meet
            case rel => exact HSR.out.bare
  case rest =>
    as_aux_lemma =>
      have HS := hid hcut
      clear hcut HYES HOK HS4 HBL HBM
      clear hU hl hm
      go_wp2_with fail
      refine (drawTrimMap_any l2 c2 a2 _ HS.out.draw).mono ?_
      rintro e w1 ⟨l, b, c, p, n, rfl, hl, hbd, hp0, hp1, hn0, hn1, hx, hb⟩
      have HS1 : Hid (Sm w [(b, l)] [] l2 c2 a2 w1) := (HS.out.on hb).addX hx
      obtain ⟨V, ok, hV, hbV, hyes, TS, TI⟩ := trim_tells l p n (by omega) hbd ⟨by omega, by omega⟩ ⟨by omega, by omega⟩
      have HYES := hid hyes
      have HTS := hid TS
      have HTI := hid TI
      have HBD := hid hbd
      have HBV := hid hbV
      clear hb hx hyes TS TI hbd hbV HS
      go_wp2_with fail
      refine (HTI.out b c _ (HS1.out.x b l (by simp))).mono ?_
      rintro e w2 ⟨b2, c2', rfl, hx, hb⟩
      have HS2 : Hid (Sm w [(b2, V), (b, l)] [] l2 c2 a2 w2) := (HS1.out.on hb).addX hx
      clear HS1 hb hx HTI
      go_wp2_with fail
      refine (HTS.out b c _ (HS2.out.x b l (by simp))).mono ?_
      rintro e w3 ⟨b3, c3, rfl, hx, hb⟩
      have HS3 : Hid (Sm w [(b3, V), (b2, V), (b, l)] [] l2 c2 a2 w3) := (HS2.out.on hb).addX hx
      clear HS2 hb hx HTS
      have HSAME : Hid (Calls Try.prog 8 #[.slice b2 V.length c2', .slice b3 V.length c3] w3 fun e w' => e = .returned (.bool true) ∧ Below w3.heap.size w3 w') := by
        have := sameMap_any b2 b3 c2' c3 V V w3 (by omega) (HS3.out.x b2 V (by simp)) (HS3.out.x b3 V (by simp))
        rw [decide_eq_true rfl] at this
        exact this
      go_wp2_with fail
      refine HSAME.out.mono ?_
      rintro e w4 ⟨rfl, hb⟩
      have HS4 : Hid (Sm w [(b3, V), (b2, V), (b, l)] [] l2 c2 a2 w4) := HS3.out.on hb
      clear HS3 hb HSAME
      go_upto_if 165 with fail
      go_cut [] (fun wd => Sm w [] [] l2 c2 a2 wd)
      case first =>
        as_aux_lemma =>
          cases ok
          · go_wp2_with fail
            go_meet
            case rel => exact HS4.out.bare
          · obtain ⟨hgl, hin, rfl⟩ := HYES.out rfl
            obtain ⟨p, rfl⟩ : ∃ p' : Nat, p = p' := ⟨p.toNat, by unfold inB at hin; rw [decide_eq_true_iff] at hin; omega⟩
            obtain ⟨n, rfl⟩ : ∃ n' : Nat, n = n' := ⟨n.toNat, by omega⟩
            rw [Int.toNat_natCast, Int.toNat_natCast] at *
            have hgV : goodM (mapF (cutF (plN l) p n) 16) = true := mapF_good _ (cutF_range _ _ _ (plN_range l hgl))
            have HWI := hid (trim_within l p n hgl)
            have HAG : Hid (∀ q d v, Xs v.heap.size q (mapF (cutF (plN l) p n) 16) v → Calls Try.prog 26 #[.slice q (mapF (cutF (plN l) p n) 16).length d, .int .i64 p, .int .i64 n] v fun e w' => ToldX (mapF (cutF (plN l) p n) 16) true v e w') := fun q d v hv => by
              have := itrim_yes q d _ p n v HBV.out.fit hv hgV hin
              rw [trim_again l p n hgl] at this
              exact this.mono fun _ _ h => h.told
            obtain ⟨U, oku, hU, _, hu, _, TU⟩ := unl_tells l (mapF (cutF (plN l) p n) 16) (by omega) (by omega) HBD.out HBV.out
            obtain ⟨rfl, rfl⟩ := hu hgl hgV
            have HTU := hid TU
            have HIG : Hid (∀ q d v, Xs v.heap.size q (mapF (cutF (plN l) p n) 16) v → Calls Try.prog 10 #[.slice q (mapF (cutF (plN l) p n) 16).length d] v fun e w' => e = .returned (.bool true) ∧ Below v.heap.size v w') := fun q d v hv => by
              have := igood_any q d _ v (by omega) HBV.out.fit hv
              rw [hgV] at this
              exact this
            clear hu TU hgl hgV hin HYES HBD HBV
            generalize diffs (plN l) (plN (mapF (cutF (plN l) p n) 16)) 16 = U at *
            generalize mapF (cutF (plN l) p n) 16 = V at *
            go_wp2_with fail
            refine (HAG.out b2 c2' _ (HS4.out.x b2 V (by simp))).mono ?_
            rintro e w5 ⟨b5, c5, rfl, hx, hb⟩
            have HS5 : Hid (Sm w [(b5, V), (b3, V), (b2, V), (b, l)] [] l2 c2 a2 w5) := (HS4.out.on hb).addX hx
            clear HS4 hb hx HAG
            go_wp2_with fail
            refine (HTU.out b c b2 c2' _ (HS5.out.x b l (by simp)) (HS5.out.x b2 V (by simp))).mono ?_
            rintro e w6 ⟨b6, c6, rfl, hx, hb⟩
            have HS6 : Hid (Sm w [(b5, V), (b3, V), (b2, V), (b, l)] [(b6, U)] l2 c2 a2 w6) := (HS5.out.on hb).addI hx
            clear HS5 hb hx HTU
            go_wp2_with fail
            refine (HIG.out b2 c2' _ (HS6.out.x b2 V (by simp))).mono ?_
            rintro e w7 ⟨rfl, hb⟩
            have HS7 := hid (HS6.out.on hb)
            clear HS6 hb HIG
            have HSAME : Hid (Calls Try.prog 8 #[.slice b5 V.length c5, .slice b2 V.length c2'] w7 fun e w' => e = .returned (.bool true) ∧ Below w7.heap.size w7 w') := by
              have := sameMap_any b5 b2 c5 c2' V V w7 (by omega) (HS7.out.x b5 V (by simp)) (HS7.out.x b2 V (by simp))
              rw [decide_eq_true rfl] at this
              exact this
            go_wp2_with fail
            refine HSAME.out.mono ?_
            rintro e w8 ⟨rfl, hb⟩
            have HS8 := hid (HS7.out.on hb)
            clear HS7 hb HSAME
            go_wp2_with fail
            go_loopw [198] (fun i wr => ∃ k : Nat, k ≤ U.length ∧ i = .int .i64 k ∧ Sm w [(b5, V), (b3, V), (b2, V), (b, l)] [(b6, U)] l2 c2 a2 wr) (fun i _ => U.length - (intOf i).toNat)
            case atStart => exact ⟨0, Nat.zero_le _, rfl, HS8.out⟩
            case round =>
              clear HS8
              obtain ⟨k, hk, rfl, hsm⟩ := hrel
              have HSR := hid hsm
              clear hsm
              by_cases hlk : k < U.length
              · obtain ⟨bb, ob, rfl, _, hc6⟩ := (HSR.out.i b6 U (by simp)).cell (by omega)
                have y0 := hc6 k hlk
                obtain ⟨r1, r2⟩ := HWI.out U[k] (List.getElem_mem hlk)
                generalize U[k] = x at *
                have hd1 : decide (x < (p : Int)) = false := decide_eq_false (by omega)
                have hd2 : decide ((p : Int) + (n : Int) ≤ x) = false := decide_eq_false (by omega)
                have hk2 : (k : Int) < (U.length : Int) := by omega
                have hdk : decide ((k : Int) < (U.length : Int)) = true := decide_eq_true (by omega)
                clear hc6
                go_wp2_with fail
                go_roundw
                case rel => exact ⟨k + 1, by omega, by go_num, HSR.out⟩
                case measure => simp [intOf]; omega
              · have hdk : decide ((k : Int) < (U.length : Int)) = false := decide_eq_false (by omega)
                go_wp2
                go_meet
                case rel => exact HSR.out.bare
      case rest =>
        as_aux_lemma =>
          have HS := hid hcut
          clear hcut HYES HS4 HBD HBV
          clear hV hl
          go_wp2_with fail
          refine (drawShift_any l2 c2 a2 _ HS.out.draw).mono ?_
          rintro e w1 ⟨s, b, c, p, q, d, rfl, hs, hbd, hp, hq, hd0, hd1, hx, hb⟩
          have HS1 : Hid (Sm w [(b, s)] [] l2 c2 a2 w1) := (HS.out.on hb).addX hx
          obtain ⟨V, ok, hV, hbV, hyes, _, TS, TI⟩ := shift_tells s p q d (by omega) hbd
          have HYES := hid hyes
          have HTS := hid TS
          have HTI := hid TI
          have HBD := hid hbd
          have HBV := hid hbV
          clear hb hx hyes TS TI hbd hbV HS hp hq
          go_wp2_with fail
          refine (HTI.out b c _ (HS1.out.x b s (by simp))).mono ?_
          rintro e w2 ⟨b2, c2', rfl, hx, hb⟩
          have HS2 : Hid (Sm w [(b2, V), (b, s)] [] l2 c2 a2 w2) := (HS1.out.on hb).addX hx
          clear HS1 hb hx HTI
          go_wp2_with fail
          refine (HTS.out b c _ (HS2.out.x b s (by simp))).mono ?_
          rintro e w3 ⟨b3, c3, rfl, hx, hb⟩
          have HS3 : Hid (Sm w [(b3, V), (b2, V), (b, s)] [] l2 c2 a2 w3) := (HS2.out.on hb).addX hx
          clear HS2 hb hx HTS
          have HSAME : Hid (Calls Try.prog 8 #[.slice b2 V.length c2', .slice b3 V.length c3] w3 fun e w' => e = .returned (.bool true) ∧ Below w3.heap.size w3 w') := by
            have := sameMap_any b2 b3 c2' c3 V V w3 (by omega) (HS3.out.x b2 V (by simp)) (HS3.out.x b3 V (by simp))
            rw [decide_eq_true rfl] at this
            exact this
          go_wp2_with fail
          refine HSAME.out.mono ?_
          rintro e w4 ⟨rfl, hb⟩
          have HS4 : Hid (Sm w [(b3, V), (b2, V), (b, s)] [] l2 c2 a2 w4) := HS3.out.on hb
          clear HS3 hb HSAME
          cases ok
          · have HB4 := hid HS4.out.below
            clear HS4 HYES HBD HBV
            go_wp2_with fail
            go_ret
            exact ⟨rfl, HB4.out⟩
          · obtain ⟨hgs, harg, hok, hVe⟩ := HYES.out rfl
            have hgV : goodM V = true := by
              rw [hVe]
              refine mapF_good _ (shF_range (plN s) p q d (plN_range s hgs) fun b hb => ?_)
              unfold okS at hok
              rw [List.all_eq_true] at hok
              exact hok b (List.mem_range.2 hb)
            have HIG : Hid (∀ q d v, Xs v.heap.size q V v → Calls Try.prog 10 #[.slice q V.length d] v fun e w' => e = .returned (.bool true) ∧ Below v.heap.size v w') := fun q d v hv => by
              have := igood_any q d _ v (by omega) HBV.out.fit hv
              rw [hgV] at this
              exact this
            obtain ⟨Y, five, hY, hbY, hy, _, _, T5⟩ := shift_tells s 0 10000 d (by omega) HBD.out
            obtain ⟨Z, six, hZ, _, hz, hz2, _, T6⟩ := shift_tells Y 0 10000 (-d) (by omega) hbY
            have HBK : Hid (five = true → six = true ∧ Z = s) := fun h => by
              obtain ⟨_, ha, ho, rfl⟩ := hy h
              obtain ⟨k1, k2⟩ := shift_back s d hgs ho
              have hgY : goodM (mapF (shF (plN s) 0 10000 d 16) 16) = true := mapF_good _ (shF_range (plN s) 0 10000 d (plN_range s hgs) fun b hb => by
                unfold okS at ho
                rw [List.all_eq_true] at ho
                exact ho b (List.mem_range.2 hb))
              have h6 := hz2 hgY (by unfold argS at ha ⊢; omega) k1
              obtain ⟨_, _, _, hZe⟩ := hz h6
              exact ⟨h6, hZe.trans k2⟩
            have HT5 := hid T5
            have HT6 := hid T6
            clear hgs harg hok hVe hgV hy hz hz2 T5 T6 hbY HYES HBD HBV
            go_wp2_with fail
            refine (HT5.out b c _ (HS4.out.x b s (by simp))).mono ?_
            rintro e w5 ⟨b5, c5, rfl, hx, hb⟩
            have HS5 : Hid (Sm w [(b5, Y), (b3, V), (b2, V), (b, s)] [] l2 c2 a2 w5) := (HS4.out.on hb).addX hx
            clear HS4 hb hx HT5
            go_wp2_with fail
            refine (HT6.out b5 c5 _ (HS5.out.x b5 Y (by simp))).mono ?_
            rintro e w6 ⟨b6, c6, rfl, hx, hb⟩
            have HS6 : Hid (Sm w [(b6, Z), (b5, Y), (b3, V), (b2, V), (b, s)] [] l2 c2 a2 w6) := (HS5.out.on hb).addX hx
            clear HS5 hb hx HT6
            go_wp2_with fail
            refine (HIG.out b2 c2' _ (HS6.out.x b2 V (by simp))).mono ?_
            rintro e w7 ⟨rfl, hb⟩
            have HS7 : Hid (Sm w [(b6, Z), (b5, Y), (b3, V), (b2, V), (b, s)] [] l2 c2 a2 w7) := HS6.out.on hb
            clear HS6 hb HIG
            cases five
            · have HB7 := hid HS7.out.below
              clear HS7 HBK
              go_wp2_with fail
              go_ret
              exact ⟨rfl, HB7.out⟩
            · obtain ⟨rfl, rfl⟩ := HBK.out rfl
              have HSAME : Hid (Calls Try.prog 8 #[.slice b6 Z.length c6, .slice b Z.length c] w7 fun e w' => e = .returned (.bool true) ∧ Below w7.heap.size w7 w') := by
                have := sameMap_any b6 b c6 c Z Z w7 (by omega) (HS7.out.x b6 Z (by simp)) (HS7.out.x b Z (by simp))
                rw [decide_eq_true rfl] at this
                exact this
              clear HBK
              go_wp2_with fail
              refine HSAME.out.mono ?_
              rintro e w8 ⟨rfl, hb⟩
              have HB8 := hid (HS7.out.on hb).below
              clear HS7 hb HSAME
              go_wp2_with fail
              go_ret
              exact ⟨rfl, HB8.out⟩
set_option maxHeartbeats 400000 in
theorem unls_big (l1 c1 l2 c2 : Nat) (a1 a2 : Option Addr) (w : World) (h1 : l1 ≤ 4611686018427387903) (h2 : l2 ≤ 4611686018427387903) (h12 : ¬ l1 + l2 ≤ 1048576) :
    Calls Try.prog 4 #[.slice a1 l1 c1, .slice a2 l2 c2] w fun e w' => e = .returned (.bool true) ∧ Below w.heap.size w w' := by
  have hd : decide ((1048576 : Int) < (l1 : Int) + (l2 : Int)) = true := by simp; omega
  go_enter Try.func4, Try.ntmps4
  go_wp2_with fail
  go_ret
  exact ⟨rfl, Below.refl _ _⟩
end Go.Proofs.Ytgipkpldlkmdkaa
