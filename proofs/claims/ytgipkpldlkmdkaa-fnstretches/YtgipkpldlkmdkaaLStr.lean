/- The law on maps and their places: its walk out of the contracts. -/
import Derived.Test.YtgipkpldlkmdkaaTellsM
import Derived.Deep.DeepCutAuto
import Derived.Deep.QuietTactic
import Derived.BigQuiet
namespace Go.Proofs.Ytgipkpldlkmdkaa
set_option maxRecDepth 100000
open Go.ChangeShapes Go.WideShapes Go.ChangeAt Go.RowKit G00541
theorem belowN (w : World) (n : Nat) : Below w.heap.size w (w.drewN n) := ⟨rfl, rfl, rfl, Nat.le_refl _, fun _ _ => rfl⟩
theorem put_at (l V : List Sx) (p n c : Int) (hgx : goodX ⟨p, n, c⟩ = true) (hp : ∀ b, b < 16 → plN V b = putF (plN l) ⟨p, n, c⟩ n.toNat b) (b : Nat) (hb : b < 16) :
    (p ≤ b ∧ (b : Int) < p + n → plN V b = c + b - p) ∧ (¬ (p ≤ b ∧ (b : Int) < p + n) → plN V b = plN l b) := by
  have gx := (goodX_iff _).1 hgx
  simp only at gx
  have e := hp b hb
  unfold putF at e
  simp only at e
  have en : ((n.toNat : Nat) : Int) = n := by omega
  rw [en] at e
  constructor
  · intro h; rw [if_pos h] at e; omega
  · intro h; rw [if_neg h] at e; exact e
set_option maxHeartbeats 8000000 in
theorem strs_small (l1 c1 l2 c2 : Nat) (a1 a2 : Option Addr) (w : World) (h12 : l1 + l2 ≤ 1048576) (hK1 : Code w.heap.size l1 c1 a1 w) (hK2 : Code w.heap.size l2 c2 a2 w) :
    Calls Try.prog 3 #[.slice a1 l1 c1, .slice a2 l2 c2] w fun e w' => e = .returned (.bool true) ∧ Below w.heap.size w w' := by
  have hd : decide ((1048576 : Int) < (l1 : Int) + (l2 : Int)) = false := by simp; omega
  have HK1 := hid hK1
  have HS : Hid (Sm w [] [] l2 c2 a2 w) := ⟨Below.refl _ _, hK2, (fun _ h => by cases h), (fun _ h => by cases h)⟩
  clear hK1 hK2
  go_enter Try.func3, Try.ntmps3
  go_wp2_with fail
  refine (drawMapOf_any l1 c1 a1 _ HK1.out).mono ?_
  rintro e w1 ⟨l, b, c, rfl, hl, hx, hb⟩
  have HS1 : Hid (Sm w [] [(b, l)] l2 c2 a2 w1) := (HS.out.on hb).addI hx
  obtain ⟨V, ok, hV, hyes, TS, TI⟩ := mapOf_tells l (by omega)
  have HYES := hid hyes
  have HTS := hid TS
  have HTI := hid TI
  clear HS HK1 hb hx hyes TS TI
  go_wp2_with fail
  refine (HTI.out b c _ (HS1.out.i b l (by simp))).mono ?_
  rintro e w2 ⟨b2, d2, rfl, hx, hb⟩
  have HS2 : Hid (Sm w [(b2, V)] [(b, l)] l2 c2 a2 w2) := (HS1.out.on hb).addX hx
  clear HS1 hb hx HTI
  go_wp2_with fail
  refine (HTS.out b c _ (HS2.out.i b l (by simp))).mono ?_
  rintro e w3 ⟨b3, d3, rfl, hx, hb⟩
  have HS3 : Hid (Sm w [(b3, V), (b2, V)] [(b, l)] l2 c2 a2 w3) := (HS2.out.on hb).addX hx
  clear HS2 hb hx HTS
  go_wp2_with fail
  refine (sameMap_any b2 b3 d2 d3 V V _ (by omega) (HS3.out.x b2 V (by simp)) (HS3.out.x b3 V (by simp))).mono ?_
  rintro e w4 ⟨rfl, hb⟩
  have HS4 : Hid (Sm w [(b2, V)] [(b, l)] l2 c2 a2 w4) := by
    have := HS3.out.on hb
    exact ⟨this.below, this.code, fun p hp => this.xs p (List.mem_cons_of_mem _ hp), this.is⟩
  have hVV : decide (V = V) = true := by simp
  rw [hVV]
  clear hVV HS3 hb
  go_upto_if 66 with fail
  go_cut [] (fun wd => Sm w [] [] l2 c2 a2 wd)
  case first =>
    as_aux_lemma =>
      cases ok
      · go_wp2_with fail
        go_meet
        case rel => exact HS4.out.bare
      · obtain ⟨h16, hgV, hlt⟩ := HYES.out rfl
        obtain ⟨P, okp, hP, hpg, _, TP⟩ := places_tells V (by omega) (Bnd.good hgV)
        obtain ⟨rfl, hPl⟩ := hpg hgV
        rw [← hlt] at hPl
        subst hPl
        have HTP := hid TP
        have HIG := hid (fun q d v (hv : Xs v.heap.size q V v) => igood_any q d V v (by omega) (Bnd.good hgV).fit hv)
        rw [hgV] at HIG
        have HAT : Hid (∀ k (hk : k < P.length), P[k] = plN V k) := fun k hk => by
          have := List.getElem_of_eq hlt hk
          rw [this, tab_at]
        have HPL := hid (fun q d k v (hv : Xs v.heap.size q V v) (hk : k < 16) => iplace_in q d V k v (Bnd.good hgV).fit hv hgV hk)
        have H16 := hid h16
        have hd9 : decide ((16 : Int) < (V.length : Int)) = false := decide_eq_false (by omega)
        have hd9n : decide (16 < V.length) = false := decide_eq_false (by omega)
        clear hpg TP hgV hlt h16 HYES
        go_wp2_with fail
        refine (HTP.out b2 d2 _ (HS4.out.x b2 V (by simp))).mono ?_
        rintro e w5 ⟨b5, d5, rfl, hx, hb⟩
        have HS5 : Hid (Sm w [(b2, V)] [(b5, P), (b, P)] l2 c2 a2 w5) := (HS4.out.on hb).addI hx
        clear HS4 hb hx HTP
        go_wp2_with fail
        refine (HIG.out b2 d2 _ (HS5.out.x b2 V (by simp))).mono ?_
        rintro e w6 ⟨rfl, hb⟩
        have HS6 : Hid (Sm w [(b2, V)] [(b5, P), (b, P)] l2 c2 a2 w6) := HS5.out.on hb
        clear HS5 hb HIG
        go_wp2_with fail
        refine (sameInts_same b5 b d5 c P _ (by omega) (HS6.out.i b5 P (by simp)) (HS6.out.i b P (by simp))).mono ?_
        rintro e w7 ⟨rfl, hb⟩
        have HS7 : Hid (Sm w [(b2, V)] [(b5, P), (b, P)] l2 c2 a2 w7) := HS6.out.on hb
        clear HS6 hb
        go_wp2_with fail
        go_loopw [92] (fun i wr => ∃ k : Nat, k ≤ P.length ∧ i = .int .i64 k ∧ Sm w [(b2, V)] [(b5, P), (b, P)] l2 c2 a2 wr) (fun i _ => P.length - (intOf i).toNat)
        case atStart => exact ⟨0, Nat.zero_le _, rfl, HS7.out⟩
        case round =>
          clear HS7
          obtain ⟨k, hk, rfl, hsm⟩ := hrel
          have HSR := hid hsm
          clear hsm
          by_cases hlk : k < P.length
          · have hk16 : k < 16 := by omega
            obtain ⟨ba, off, rfl, hba, hcells⟩ := (HSR.out.i b P (by simp)).cell (by omega)
            have x0 := hcells k hlk
            rw [HAT.out k hlk] at x0
            have HC := hid (HPL.out b2 d2 k wr (HSR.out.x b2 V (by simp)) hk16)
            clear hcells
            by_cases hp : 0 ≤ plN V k
            · rw [if_pos hp] at HC
              have hd1 : decide (0 ≤ plN V k) = true := decide_eq_true hp
              clear hp
              generalize plN V k = y at *
              go_wp2_with fail
              refine (HC.out).mono ?_
              rintro e w8 ⟨rfl, hb⟩
              have HS8 := hid (HSR.out.on hb)
              clear hb HSR HC x0
              go_wp2
              go_roundw
              case rel => exact ⟨k + 1, by omega, by go_num, HS8.out⟩
              case measure => simp [intOf]; omega
            · rw [if_neg hp] at HC
              have hd1 : decide (0 ≤ plN V k) = false := decide_eq_false hp
              clear hp
              generalize plN V k = y at *
              go_wp2_with fail
              refine (HC.out).mono ?_
              rintro e w8 ⟨rfl, hb⟩
              have HS8 := hid (HSR.out.on hb)
              clear hb HSR HC x0
              go_wp2
              go_roundw
              case rel => exact ⟨k + 1, by omega, by go_num, HS8.out⟩
              case measure => simp [intOf]; omega
          · go_wp2
            go_meet
            case rel => exact HSR.out.bare
  case rest =>
    as_aux_lemma =>
      have HS := hid hcut
      clear hcut HYES HS4
      clear hV hl
      go_wp2_with fail
      refine (drawPut_any l2 c2 a2 _ HS.out.draw).mono ?_
      rintro e w1 ⟨l, b, c, p, n, d, rfl, hl, hbd, hbx, hx, hb⟩
      have HS1 : Hid (Sm w [(b, l)] [] l2 c2 a2 (w1.alloc (.cells #[.int .i64 p, .int .i64 n, .int .i64 d] 36))) := ((HS.out.on hb).addX hx).on ((Below.refl _ _).alloc (Nat.le_refl _) _)
      have HX1 : Hid (SxAt w1.heap.size p n d (w1.alloc (.cells #[.int .i64 p, .int .i64 n, .int .i64 d] 36))) := SxAt.new _ _ _ _ _
      obtain ⟨V, ok, hV, hBV, hyes, TS, TI⟩ := put_tells l p n d (by omega) hbd hbx
      have HYES := hid hyes
      have HTS := hid TS
      have HTI := hid TI
      have HBD := hid hbd
      have HBX := hid hbx
      have HBV := hid hBV
      have HIG := hid (fun q e v (hv : Xs v.heap.size q l v) => igood_any q e l v (by omega) hbd.fit hv)
      have HSG := hid (fun q e v (hv : Xs v.heap.size q l v) => sgood_any q e l v (by omega) hv)
      clear hb hx hyes TS TI hbd hbx hBV HS
      obtain ⟨x0, x1, x2, _, _, _, _⟩ := HX1.out
      generalize hW : w1.alloc (.cells #[.int .i64 p, .int .i64 n, .int .i64 d] 36) = w2 at *
      generalize hX : w1.heap.size = T at *
      go_wp2_with fail
      clear hW hX
      refine (HTI.out b c _ (HS1.out.x b l (by simp))).mono ?_
      rintro e w3 ⟨b3, d3, rfl, hx, hb⟩
      have HS3 : Hid (Sm w [(b3, V), (b, l)] [] l2 c2 a2 w3) := (HS1.out.on hb).addX hx
      have HX3 : Hid (SxAt T p n d w3) := HX1.out.below hb
      clear x0 x1 x2
      obtain ⟨x0, x1, x2, _, _, _, _⟩ := HX3.out
      clear HS1 HX1 hb hx HTI
      go_wp2_with fail
      refine (HTS.out b c _ (HS3.out.x b l (by simp))).mono ?_
      rintro e w4 ⟨b4, d4, rfl, hx, hb⟩
      have HS4 : Hid (Sm w [(b4, V), (b3, V), (b, l)] [] l2 c2 a2 w4) := (HS3.out.on hb).addX hx
      have HX4 : Hid (SxAt T p n d w4) := HX3.out.below hb
      clear HS3 HX3 hb hx HTS x0 x1 x2
      go_wp2_with fail
      refine (sameMap_any b3 b4 d3 d4 V V _ (by omega) (HS4.out.x b3 V (by simp)) (HS4.out.x b4 V (by simp))).mono ?_
      rintro e w5 ⟨rfl, hb⟩
      have HS5 : Hid (Sm w [(b4, V), (b3, V), (b, l)] [] l2 c2 a2 w5) := HS4.out.on hb
      have HX5 : Hid (SxAt T p n d w5) := HX4.out.below hb
      have hVV : decide (V = V) = true := by simp
      rw [hVV]
      clear hVV HS4 HX4 hb
      go_wp2_with fail
      refine (HIG.out b c _ (HS5.out.x b l (by simp))).mono ?_
      rintro e w6 ⟨rfl, hb⟩
      have HS6 : Hid (Sm w [(b4, V), (b3, V), (b, l)] [] l2 c2 a2 w6) := HS5.out.on hb
      have HX6 : Hid (SxAt T p n d w6) := HX5.out.below hb
      clear HS5 HX5 hb HIG
      go_wp2_with fail
      refine (HSG.out b c _ (HS6.out.x b l (by simp))).mono ?_
      rintro e w7 ⟨rfl, hb⟩
      have HS7 : Hid (Sm w [(b4, V), (b3, V), (b, l)] [] l2 c2 a2 w7) := HS6.out.on hb
      have HX7 : Hid (SxAt T p n d w7) := HX6.out.below hb
      clear HS6 HX6 hb HSG
      go_upto_if 149 with fail
      go_cut [] (fun wd => Sm w [] [] l2 c2 a2 wd)
      case first =>
        as_aux_lemma =>
          cases ok
          · go_wp2_with fail
            go_meet
            case rel => exact HS7.out.bare
          · obtain ⟨hgl, hgx, hgV, hput⟩ := HYES.out rfl
            obtain ⟨P, okp, _, hpg, _, TP⟩ := places_tells l (by omega) HBD.out
            obtain ⟨rfl, rfl⟩ := hpg hgl
            obtain ⟨Q, okq, _, hqg, _, TQ⟩ := places_tells V (by omega) HBV.out
            obtain ⟨rfl, rfl⟩ := hqg hgV
            have HTP := hid TP
            have HTQ := hid TQ
            have HIG := hid (fun q e v (hv : Xs v.heap.size q V v) => igood_any q e V v (by omega) HBV.out.fit hv)
            rw [hgV] at HIG
            have HPUT := hid (put_at l V p n d hgx hput)
            have gx := (goodX_iff _).1 hgx
            simp only at gx
            obtain ⟨g0, g1, g2, g3, g4, g5⟩ := gx
            clear hpg hqg TP TQ hgl hgV hput hgx HYES HBD HBX HBV
            go_wp2_with fail
            refine (HTP.out b c _ (HS7.out.x b l (by simp))).mono ?_
            rintro e w8 ⟨b8, d8, rfl, hx, hb⟩
            rw [tab_len]
            have HS8 : Hid (Sm w [(b4, V), (b3, V), (b, l)] [(b8, tab (plN l))] l2 c2 a2 w8) := (HS7.out.on hb).addI hx
            have HX8 : Hid (SxAt T p n d w8) := HX7.out.below hb
            clear HS7 HX7 hb hx HTP
            go_wp2_with fail
            refine (HTQ.out b3 d3 _ (HS8.out.x b3 V (by simp))).mono ?_
            rintro e w9 ⟨b9, d9, rfl, hx, hb⟩
            rw [tab_len]
            have HS9 : Hid (Sm w [(b4, V), (b3, V), (b, l)] [(b9, tab (plN V)), (b8, tab (plN l))] l2 c2 a2 w9) := (HS8.out.on hb).addI hx
            have HX9 : Hid (SxAt T p n d w9) := HX8.out.below hb
            clear HS8 HX8 hb hx HTQ
            go_wp2_with fail
            refine (HIG.out b3 d3 _ (HS9.out.x b3 V (by simp))).mono ?_
            rintro e w10 ⟨rfl, hb⟩
            have HS10 := hid (HS9.out.on hb)
            have HX10 : Hid (SxAt T p n d w10) := HX9.out.below hb
            clear HS9 HX9 hb HIG
            go_wp2_with fail
            go_loopw [173] (fun i wr => ∃ k : Nat, k ≤ 16 ∧ i = .int .i64 k ∧ Sm w [(b4, V), (b3, V), (b, l)] [(b9, tab (plN V)), (b8, tab (plN l))] l2 c2 a2 wr ∧ SxAt T p n d wr) (fun i _ => 16 - (intOf i).toNat)
            case atStart => exact ⟨0, Nat.zero_le _, rfl, HS10.out, HX10.out⟩
            case round =>
              clear HS10 HX10
              obtain ⟨k, hk, rfl, hsm, hxa⟩ := hrel
              have HSR := hid hsm
              have HXR := hid hxa
              clear hsm
              by_cases hlk : k < 16
              · obtain ⟨x0, x1, x2, _, _, _, _⟩ := hxa
                obtain ⟨ba, oa, rfl, _, hc9⟩ := (HSR.out.i b9 (tab (plN V)) (by simp)).cell (by rw [tab_len]; omega)
                obtain ⟨bb, ob, rfl, _, hc8⟩ := (HSR.out.i b8 (tab (plN l)) (by simp)).cell (by rw [tab_len]; omega)
                have y0 := hc9 k (by rw [tab_len]; exact hlk)
                have z0 := hc8 k (by rw [tab_len]; exact hlk)
                rw [tab_at] at y0 z0
                obtain ⟨hin, hout⟩ := HPUT.out k hlk
                have hk2 : (k : Int) < 16 := by omega
                clear hc9 hc8
                by_cases q1 : p ≤ (k : Int)
                · have hd1 : decide (p ≤ (k : Int)) = true := decide_eq_true q1
                  by_cases q2 : (k : Int) < p + n
                  · have hd2 : decide ((k : Int) < p + n) = true := decide_eq_true q2
                    rw [hin ⟨q1, q2⟩] at y0
                    clear hin hout
                    go_wp2_with fail
                    go_quiet (fail)
                    have HS8 := hid (HSR.out.on (belowN wr nq))
                    have HX8 := hid (HXR.out.below (belowN wr nq))
                    generalize hW1 : wr.drewN nq = w1 at *
                    clear hW1 y0 z0 x0 x1 x2 HSR HXR
                    go_wp2
                    go_roundw
                    case rel => exact ⟨k + 1, by omega, by go_num, HS8.out, HX8.out⟩
                    case measure => simp [intOf]; omega
                  · have hd2 : decide ((k : Int) < p + n) = false := decide_eq_false q2
                    rw [hout (fun h => q2 h.2)] at y0
                    clear hin hout
                    generalize plN l k = zz at y0 z0
                    go_wp2_with fail
                    go_quiet (fail)
                    have HS8 := hid (HSR.out.on (belowN wr nq))
                    have HX8 := hid (HXR.out.below (belowN wr nq))
                    generalize hW1 : wr.drewN nq = w1 at *
                    clear hW1 y0 z0 x0 x1 x2 HSR HXR
                    go_wp2
                    go_roundw
                    case rel => exact ⟨k + 1, by omega, by go_num, HS8.out, HX8.out⟩
                    case measure => simp [intOf]; omega
                · have hd1 : decide (p ≤ (k : Int)) = false := decide_eq_false q1
                  rw [hout (fun h => q1 h.1)] at y0
                  clear hin hout
                  generalize plN l k = zz at y0 z0
                  go_wp2_with fail
                  go_quiet (fail)
                  have HS8 := hid (HSR.out.on (belowN wr nq))
                  have HX8 := hid (HXR.out.below (belowN wr nq))
                  generalize hW1 : wr.drewN nq = w1 at *
                  clear hW1 y0 z0 x0 x1 x2 HSR HXR
                  go_wp2
                  go_roundw
                  case rel => exact ⟨k + 1, by omega, by go_num, HS8.out, HX8.out⟩
                  case measure => simp [intOf]; omega
              · clear hxa
                go_wp2
                go_meet
                case rel => exact HSR.out.bare
      case rest =>
        as_aux_lemma =>
          have HS := hid hcut
          clear hcut HYES HS7 HX7 HBD HBX HBV
          clear hV hl
          go_wp2_with fail
          refine (drawPlaceOf_any l2 c2 a2 _ HS.out.draw).mono ?_
          rintro e w1 ⟨m, b, c, q, rfl, hm, hbd, hx, hb⟩
          have HS1 : Hid (Sm w [(b, m)] [] l2 c2 a2 w1) := (HS.out.on hb).addX hx
          obtain ⟨W, okw, TS, TI⟩ := place_tells m q (by omega) hbd
          have HTS := hid TS
          have HTI := hid TI
          clear hb hx TS TI hbd HS
          go_wp2_with fail
          refine (HTI.out b c _ (HS1.out.x b m (by simp))).mono ?_
          rintro e w2 ⟨rfl, hb⟩
          have HS2 := hid (HS1.out.on hb)
          clear HS1 hb HTI
          go_wp2_with fail
          refine (HTS.out b c _ (HS2.out.x b m (by simp))).mono ?_
          rintro e w3 ⟨rfl, hb⟩
          have HS3 := hid (HS2.out.on hb).bare
          clear HS2 hb HTS
          go_wp2_with fail
          refine (drawPlacesOf_any l2 c2 a2 _ HS3.out.draw).mono ?_
          rintro e w4 ⟨m2, b4, c4, rfl, hm2, hbd, hx, hb⟩
          have HS4 : Hid (Sm w [(b4, m2)] [] l2 c2 a2 w4) := (HS3.out.on hb).addX hx
          obtain ⟨P, okp, hP, _, TS, TI⟩ := places_tells m2 (by omega) hbd
          have HTS := hid TS
          have HTI := hid TI
          clear hb hx TS TI hbd HS3
          go_wp2_with fail
          refine (HTI.out b4 c4 _ (HS4.out.x b4 m2 (by simp))).mono ?_
          rintro e w5 ⟨b5, c5, rfl, hx, hb⟩
          have HS5 : Hid (Sm w [(b4, m2)] [(b5, P)] l2 c2 a2 w5) := (HS4.out.on hb).addI hx
          clear HS4 hb hx HTI
          go_wp2_with fail
          refine (HTS.out b4 c4 _ (HS5.out.x b4 m2 (by simp))).mono ?_
          rintro e w6 ⟨b6, c6, rfl, hx, hb⟩
          have HS6 : Hid (Sm w [(b4, m2)] [(b6, P), (b5, P)] l2 c2 a2 w6) := (HS5.out.on hb).addI hx
          clear HS5 hb hx HTS
          go_wp2_with fail
          refine (sameInts_same b5 b6 c5 c6 P _ (by omega) (HS6.out.i b5 P (by simp)) (HS6.out.i b6 P (by simp))).mono ?_
          rintro e w7 ⟨rfl, hb⟩
          have HB7 := hid (HS6.out.on hb).below
          clear HS6 hb
          go_wp2_with fail
          go_ret
          exact ⟨rfl, HB7.out⟩
set_option maxHeartbeats 400000 in
theorem strs_big (l1 c1 l2 c2 : Nat) (a1 a2 : Option Addr) (w : World) (h1 : l1 ≤ 4611686018427387903) (h2 : l2 ≤ 4611686018427387903) (h12 : ¬ l1 + l2 ≤ 1048576) :
    Calls Try.prog 3 #[.slice a1 l1 c1, .slice a2 l2 c2] w fun e w' => e = .returned (.bool true) ∧ Below w.heap.size w w' := by
  have hd : decide ((1048576 : Int) < (l1 : Int) + (l2 : Int)) = true := by simp; omega
  go_enter Try.func3, Try.ntmps3
  go_wp2_with fail
  go_ret
  exact ⟨rfl, Below.refl _ _⟩
end Go.Proofs.Ytgipkpldlkmdkaa
