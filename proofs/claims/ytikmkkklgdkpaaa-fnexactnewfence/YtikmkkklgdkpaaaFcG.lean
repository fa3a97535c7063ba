/- Judges, places, papers and pairs of a fence: loops of both sides. -/
import Derived.Test.YtikmkkklgdkpaaaFcP
namespace Go.Proofs.Ytikmkkklgdkpaaa
set_option maxRecDepth 100000
open Go Go.ChangeShapes Go.WideShapes Go.ChangeAt Go.RowKit
theorem jdOk_parts (jd gv : List Int) : jdOk jd gv = ((judgesN jd.length && decide (gv.length = jd.length)) && (List.range jd.length).all fun k => promB (jd.getD k 0) (gv.getD k 0)) := rfl
set_option maxHeartbeats 2000000 in
theorem goodJudges_any (a c : Option Addr) (ka kc : Nat) (jd gv : List Int) (w : World) (hn : jd.length ≤ 1048576) (hm : gv.length ≤ 1048576) (hZ : Is w.heap.size a jd w) (hY : Is w.heap.size c gv w) :
    Calls Try.prog 56 #[.slice a jd.length ka, .slice c gv.length kc] w fun e w' => e = .returned (.bool (jdOk jd gv)) ∧ w' = w := by
  have HZ := hid hZ
  have HY := hid hY
  have HJ := hid (isJudges_any jd.length w)
  have EG := hid (jdOk_parts jd gv)
  clear hZ hY
  by_cases hl : gv.length = jd.length
  case neg =>
    have E : Hid (jdOk jd gv = false) := by show jdOk jd gv = false; rw [EG.out, decide_eq_false hl]; simp
    have d1 : ((gv.length : Int) == (jd.length : Int)) = false := beq_eq_false_iff_ne.2 (by omega)
    have d2 : ((gv.length : Int) != (jd.length : Int)) = true := bne_iff_ne.2 (by omega)
    have d3 : decide ((gv.length : Int) = (jd.length : Int)) = false := decide_eq_false (by omega)
    clear hl
    generalize judgesN (jd.length : Int) = b at *
    go_enter Try.func56, Try.ntmps56
    go_wp2_with fail
    refine HJ.out.mono ?_
    rintro e w2 ⟨rfl, hw2⟩
    rw [hw2]
    clear hw2
    cases b
    · go_wp2_with fail
      go_ret
      exact ⟨by rw [E.out]; rfl, rfl⟩
    · go_wp2_with fail
      go_ret
      exact ⟨by rw [E.out]; rfl, rfl⟩
  cases hj : judgesN (jd.length : Int)
  · have E : Hid (jdOk jd gv = false) := by show jdOk jd gv = false; rw [EG.out, hj]; rfl
    rw [hj] at HJ
    clear hj hl
    go_enter Try.func56, Try.ntmps56
    go_wp2_with fail
    refine HJ.out.mono ?_
    rintro e w2 ⟨rfl, hw2⟩
    rw [hw2]
    clear hw2
    go_wp2_with fail
    go_ret
    exact ⟨by rw [E.out]; rfl, rfl⟩
  have EA : Hid (jdOk jd gv = (List.range jd.length).all fun k => promB (jd.getD k 0) (gv.getD k 0)) := by
    show jdOk jd gv = _
    rw [EG.out, hj, decide_eq_true hl]; rfl
  have HL := hid hl
  have d1 : ((gv.length : Int) == (jd.length : Int)) = true := beq_iff_eq.2 (by omega)
  have d2 : ((gv.length : Int) != (jd.length : Int)) = false := by rw [bne, d1]; rfl
  have d3 : decide ((gv.length : Int) = (jd.length : Int)) = true := decide_eq_true (by omega)
  rw [hj] at HJ
  clear hj hl EG
  go_enter Try.func56, Try.ntmps56
  go_wp2_with fail
  refine HJ.out.mono ?_
  rintro e w2 ⟨rfl, hw2⟩
  rw [hw2]
  clear hw2 HJ
  go_wp2_with fail
  clear d1 d2 d3
  go_loopw [20] (fun i wr => ∃ k : Nat, k ≤ jd.length ∧ i = .int .i64 k ∧ (∀ j, j < k → promB (jd.getD j 0) (gv.getD j 0) = true) ∧ wr = w) (fun i _ => jd.length - (intOf i).toNat)
  case atStart => exact ⟨0, Nat.zero_le _, rfl, (fun _ h => absurd h (Nat.not_lt_zero _)), rfl⟩
  case round =>
    obtain ⟨k, hk, rfl, hall, hwr⟩ := hrel
    subst hwr
    have HALL := hid hall
    clear hall
    by_cases hlt : k < jd.length
    · have hlg : k < gv.length := by have := HL.out; omega
      obtain ⟨b, off, rfl, hb, hc⟩ := HZ.out.cell (by omega)
      obtain ⟨b2, off2, rfl, hb2, hc2⟩ := HY.out.cell (by omega)
      have x0 := hc k hlt
      have y0 := hc2 k hlg
      clear hc hc2
      have HP := hid (goodPromise_any jd[k] gv[k] wr)
      have E0 : Hid (promB (jd.getD k 0) (gv.getD k 0) = promB jd[k] gv[k]) := by show promB (jd.getD k 0) (gv.getD k 0) = _; rw [getD_in jd k 0 hlt, getD_in gv k 0 hlg]
      generalize promB jd[k] gv[k] = r at *
      generalize jd[k] = x at *
      generalize gv[k] = y at *
      go_wp2_with fail
      refine HP.out.mono ?_
      rintro e w2 ⟨rfl, hw2⟩
      rw [hw2]
      clear hw2 HP
      cases r
      · have HV : Hid (jdOk jd gv = false) := EA.out.trans (rng_bad hlt E0.out)
        go_wp2_with fail
        go_ret
        exact ⟨ret_b2 HV.out.symm, rfl⟩
      · have HL2 : Hid (∀ j, j < k + 1 → promB (jd.getD j 0) (gv.getD j 0) = true) := fun j hj => by
          by_cases e : j = k
          · subst e; exact E0.out
          · exact HALL.out j (by omega)
        go_wp2_with fail
        go_roundw
        case rel => exact ⟨k + 1, by omega, by go_num, HL2.out, by trivial⟩
        case measure => simp [intOf]; omega
    · obtain rfl : k = jd.length := by omega
      have HV : Hid (jdOk jd gv = true) := EA.out.trans (rng_all HALL.out)
      go_wp2_with fail
      go_ret
      exact ⟨ret_b2 HV.out.symm, rfl⟩
theorem Js.cell {B : Nat} {a : Option Addr} {L : List (List Int)} {w : World} (h : Js B a L w) (h0 : 0 < L.length) : ∃ b off, a = some ⟨b, off, none⟩ ∧ b < B ∧ ∀ i (hi : i < L.length), ∃ p c, w.cell? ⟨b, off + i, none⟩ = some (.slice p L[i].length c) ∧ Is B p L[i] w := h h0
set_option maxHeartbeats 4000000 in
theorem goodPlaces_any (a c : Option Addr) (ka kc : Nat) (pl : List Int) (vt : List (List Int)) (m : Int) (w : World) (hn : pl.length ≤ 1048576) (hm : FitR vt) (hZ : Is w.heap.size a pl w) (hY : Js w.heap.size c vt w) :
    Calls Try.prog 57 #[.slice a pl.length ka, .slice c vt.length kc, .int .i64 m] w fun e w' => e = .returned (.bool (plaOk pl vt m)) ∧ w' = w := by
  have HZ := hid hZ
  have HY := hid hY
  have HM := hid hm.2
  have EG : Hid (plaOk pl vt m = ((decide (pl.length = 2) && decide (vt.length = 2)) && (List.range 2).all fun k => noOr (pl.getD k 0) && votesV m (vt.getD k []))) := rfl
  have hvn := hm.1
  clear hZ hY hm
  by_cases hl : pl.length = 2
  case neg =>
    have E : Hid (plaOk pl vt m = false) := by show plaOk pl vt m = false; rw [EG.out, decide_eq_false hl]; rfl
    have d1 : ((pl.length : Int) == 2) = false := beq_eq_false_iff_ne.2 (by omega)
    have d2 : ((pl.length : Int) != 2) = true := bne_iff_ne.2 (by omega)
    have d3 : decide ((pl.length : Int) = 2) = false := decide_eq_false (by omega)
    clear hl
    go_enter Try.func57, Try.ntmps57
    go_wp2_with fail
    go_ret
    exact ⟨by rw [E.out]; rfl, rfl⟩
  have d1 : ((pl.length : Int) == 2) = true := beq_iff_eq.2 (by omega)
  have d2 : ((pl.length : Int) != 2) = false := by rw [bne, d1]; rfl
  have d3 : decide ((pl.length : Int) = 2) = true := decide_eq_true (by omega)
  by_cases hv : vt.length = 2
  case neg =>
    have E : Hid (plaOk pl vt m = false) := by show plaOk pl vt m = false; rw [EG.out, decide_eq_false hv]; simp
    have e1 : ((vt.length : Int) == 2) = false := beq_eq_false_iff_ne.2 (by omega)
    have e2 : ((vt.length : Int) != 2) = true := bne_iff_ne.2 (by omega)
    have e3 : decide ((vt.length : Int) = 2) = false := decide_eq_false (by omega)
    clear hv hl
    go_enter Try.func57, Try.ntmps57
    go_wp2_with fail
    go_ret
    exact ⟨by rw [E.out]; rfl, rfl⟩
  have e1 : ((vt.length : Int) == 2) = true := beq_iff_eq.2 (by omega)
  have e2 : ((vt.length : Int) != 2) = false := by rw [bne, e1]; rfl
  have e3 : decide ((vt.length : Int) = 2) = true := decide_eq_true (by omega)
  have EA : Hid (plaOk pl vt m = (List.range 2).all fun k => noOr (pl.getD k 0) && votesV m (vt.getD k [])) := by
    show plaOk pl vt m = _
    rw [EG.out, decide_eq_true hl, decide_eq_true hv]; rfl
  have HL := hid hl
  have HV := hid hv
  clear hl hv EG
  go_enter Try.func57, Try.ntmps57
  go_wp2_with fail
  clear d1 d2 d3 e1 e2 e3
  go_loopw [19] (fun i wr => ∃ k : Nat, k ≤ pl.length ∧ i = .int .i64 k ∧ (∀ j, j < k → (noOr (pl.getD j 0) && votesV m (vt.getD j [])) = true) ∧ wr = w) (fun i _ => pl.length - (intOf i).toNat)
  case atStart => exact ⟨0, Nat.zero_le _, rfl, (fun _ h => absurd h (Nat.not_lt_zero _)), rfl⟩
  case round =>
    obtain ⟨k, hk, rfl, hall, hwr⟩ := hrel
    subst hwr
    have HALL := hid hall
    clear hall
    by_cases hlt : k < pl.length
    · have hlg : k < vt.length := by have := HL.out; have := HV.out; omega
      have hk2 : k < 2 := by have := HL.out; omega
      obtain ⟨b, off, rfl, hb, hc⟩ := HZ.out.cell (by omega)
      obtain ⟨b2, off2, rfl, hb2, hc2⟩ := HY.out.cell (by omega)
      have x0 := hc k hlt
      obtain ⟨q, cq, y0, hI⟩ := hc2 k hlg
      clear hc hc2
      have HP := hid (isNoOr_any pl[k] wr)
      have HQ := hid (iVotes_any q cq vt[k] m wr (HM.out k hlg) hI)
      have E0 : Hid ((noOr (pl.getD k 0) && votesV m (vt.getD k [])) = (noOr pl[k] && votesV m vt[k])) := by show (noOr (pl.getD k 0) && votesV m (vt.getD k [])) = _; rw [getD_in pl k 0 hlt, getD_in vt k [] hlg]
      clear hI
      generalize noOr pl[k] = r at *
      generalize votesV m vt[k] = s at *
      generalize pl[k] = x at *
      generalize vt[k].length = y at *
      go_wp2_with fail
      refine HP.out.mono ?_
      rintro e w2 ⟨rfl, hw2⟩
      rw [hw2]
      clear hw2 HP
      cases r
      · have HF : Hid (plaOk pl vt m = false) := EA.out.trans (rng_bad hk2 E0.out)
        go_wp2_with fail
        go_ret
        exact ⟨ret_b2 HF.out.symm, rfl⟩
      go_wp2_with fail
      refine HQ.out.mono ?_
      rintro e w2 ⟨rfl, hw2⟩
      rw [hw2]
      clear hw2 HQ
      cases s
      · have HF : Hid (plaOk pl vt m = false) := EA.out.trans (rng_bad hk2 E0.out)
        go_wp2_with fail
        go_ret
        exact ⟨ret_b2 HF.out.symm, rfl⟩
      have HL2 : Hid (∀ j, j < k + 1 → (noOr (pl.getD j 0) && votesV m (vt.getD j [])) = true) := fun j hj => by
        by_cases e : j = k
        · subst e; exact E0.out
        · exact HALL.out j (by omega)
      go_wp2_with fail
      go_roundw
      case rel => exact ⟨k + 1, by omega, by go_num, HL2.out, by trivial⟩
      case measure => simp [intOf]; omega
    · obtain rfl : k = pl.length := by omega
      have HF : Hid (plaOk pl vt m = true) := EA.out.trans (rng_all (fun j hj => HALL.out j (by have := HL.out; omega)))
      go_wp2_with fail
      go_ret
      exact ⟨ret_b2 HF.out.symm, rfl⟩
set_option maxHeartbeats 4000000 in
theorem goodPapers_any (a : Option Addr) (ka : Nat) (ln : List Pp) (m : Int) (w : World) (hn : ln.length ≤ 1048576) (hZ : Ps w.heap.size a ln w) :
    Calls Try.prog 58 #[.slice a ln.length ka, .int .i64 m] w fun e w' => e = .returned (.bool (lnOk ln m)) ∧ Below w.heap.size w w' := by
  have HZ := hid hZ
  have EG : Hid (lnOk ln m = (decide (ln.length ≤ 30) && ln.all (ppB m))) := rfl
  clear hZ
  by_cases hl : ln.length ≤ 30
  case neg =>
    have E : Hid (lnOk ln m = false) := by show lnOk ln m = false; rw [EG.out, decide_eq_false hl]; rfl
    have d1 : decide ((30 : Int) < (ln.length : Int)) = true := decide_eq_true (by omega)
    go_enter Try.func58, Try.ntmps58
    go_wp2_with fail
    go_ret
    exact ⟨by rw [E.out]; rfl, Below.refl _ _⟩
  have d1 : decide ((30 : Int) < (ln.length : Int)) = false := decide_eq_false (by omega)
  have EA : Hid (lnOk ln m = ln.all (ppB m)) := by show lnOk ln m = _; rw [EG.out, decide_eq_true hl]; rfl
  clear EG
  go_enter Try.func58, Try.ntmps58
  go_wp2_with fail
  clear d1
  go_loopw [12] (fun i wr => ∃ k : Nat, k ≤ ln.length ∧ i = .int .i64 k ∧ (∀ j (hj : j < ln.length), j < k → ppB m ln[j] = true) ∧ Below w.heap.size w wr) (fun i _ => ln.length - (intOf i).toNat)
  case atStart => exact ⟨0, Nat.zero_le _, rfl, (fun _ _ h => absurd h (Nat.not_lt_zero _)), Below.refl _ _⟩
  case round =>
    obtain ⟨k, hk, rfl, hall, hbel⟩ := hrel
    have HALL := hid hall
    have HBEL := hid hbel
    clear hall
    by_cases hlt : k < ln.length
    · obtain ⟨b, off, rfl, hb, hc⟩ := HZ.out.cell (by omega)
      obtain ⟨x0, x1, x2, x3⟩ := hc k hlt
      have hb' : ∀ o, wr.cell? ⟨b, o, none⟩ = w.cell? ⟨b, o, none⟩ := fun o => hbel.cell (p := ⟨b, o, none⟩) hb
      rw [← hb'] at x0 x1 x2 x3
      clear hc hb' hbel
      have HP := hid (fun v => goodPaper_any ln[k] m v)
      have HB1 := hid (HBEL.out.trans ((boxB wr (.cells #[.int .i64 ln[k].kd, .int .i64 ln[k].fr, .int .i64 ln[k].tt, .int .i64 ln[k].no] 74)).mono HBEL.out.size))
      have E0 : Hid (ppB m ln[k] = ppB m ln[k]) := rfl
      have HBAD : Hid (ppB m ln[k] = false → lnOk ln m = false) := fun h => EA.out.trans (all_bad hlt h)
      have HGO : Hid (ppB m ln[k] = true → ∀ j (hj : j < ln.length), j < k + 1 → ppB m ln[j] = true) := fun h j hj hjk => by
        by_cases e : j = k
        · subst e; exact h
        · exact HALL.out j hj (by omega)
      clear E0
      generalize ln[k].kd = p0 at *
      generalize ln[k].fr = p1 at *
      generalize ln[k].tt = p2 at *
      generalize ln[k].no = p3 at *
      generalize ppB m ln[k] = r at *
      go_wp2_with fail
      refine (HP.out _).mono ?_
      rintro e w2 ⟨rfl, b2⟩
      have HB2 := hid (HB1.out.trans (b2.mono HB1.out.size))
      clear b2 HP x0 x1 x2 x3
      cases r
      · have HF := hid (HBAD.out rfl)
        go_wp2_with fail
        go_ret
        exact ⟨ret_b2 HF.out.symm, HB2.out⟩
      have HG := hid (HGO.out rfl)
      clear HBAD HGO
      go_wp2_with fail
      go_roundw
      case rel => exact ⟨k + 1, by omega, by go_num, HG.out, HB2.out⟩
      case measure => simp [intOf]; omega
    · obtain rfl : k = ln.length := by omega
      have HF : Hid (lnOk ln m = true) := EA.out.trans (all_all (fun j hj => HALL.out j hj hj))
      clear hbel
      go_wp2_with fail
      go_ret
      exact ⟨ret_b2 HF.out.symm, HBEL.out⟩
set_option maxHeartbeats 4000000 in
theorem goodPairs_any (a : Option Addr) (ka : Nat) (L : List (List Int)) (w : World) (hf : FitR L) (hZ : Js w.heap.size a L w) :
    Calls Try.prog 59 #[.slice a L.length ka] w fun e w' => e = .returned (.bool (prOk L)) ∧ w' = w := by
  have HZ := hid hZ
  have HM := hid hf.2
  have hn := hf.1
  have EG : Hid (prOk L = (decide (L.length ≤ 60) && L.all prB)) := rfl
  clear hZ hf
  by_cases hl : L.length ≤ 60
  case neg =>
    have E : Hid (prOk L = false) := by show prOk L = false; rw [EG.out, decide_eq_false hl]; rfl
    have d1 : decide ((60 : Int) < (L.length : Int)) = true := decide_eq_true (by omega)
    go_enter Try.func59, Try.ntmps59
    go_wp2_with fail
    go_ret
    exact ⟨by rw [E.out]; rfl, rfl⟩
  have d1 : decide ((60 : Int) < (L.length : Int)) = false := decide_eq_false (by omega)
  have EA : Hid (prOk L = L.all prB) := by show prOk L = _; rw [EG.out, decide_eq_true hl]; rfl
  have HBADA : Hid (L.all prB = false → prOk L = false) := fun h => EA.out.trans h
  go_enter Try.func59, Try.ntmps59
  go_wp2_with fail
  clear d1
  go_loopw [10] (fun i wr => ∃ k : Nat, k ≤ L.length ∧ i = .int .i64 k ∧ (∀ j (hj : j < L.length), j < k → prB L[j] = true) ∧ wr = w) (fun i _ => L.length - (intOf i).toNat)
  case atStart => exact ⟨0, Nat.zero_le _, rfl, (fun _ _ h => absurd h (Nat.not_lt_zero _)), rfl⟩
  case round =>
    obtain ⟨k, hk, rfl, hall, hwr⟩ := hrel
    subst hwr
    have HALL := hid hall
    clear hall
    by_cases hlt : k < L.length
    · obtain ⟨b, off, rfl, hb, hc⟩ := HZ.out.cell (by omega)
      obtain ⟨q, cq, x0, hI⟩ := hc k hlt
      have hm := HM.out k hlt
      have HBAD : Hid (prB L[k] = false → prOk L = false) := fun h => HBADA.out (all_bad hlt h)
      have HGO : Hid (prB L[k] = true → ∀ j (hj : j < L.length), j < k + 1 → prB L[j] = true) := fun h j hj hjk => by
        by_cases e : j = k
        · subst e; exact h
        · exact HALL.out j hj (by omega)
      clear hc
      generalize L[k] = s at *
      have HI := hid hI
      clear hI
      by_cases h2 : s.length = 2
      case neg =>
        have HF : Hid (prOk L = false) := HBAD.out (by unfold prB; rw [decide_eq_false h2]; rfl)
        have d1 : ((s.length : Int) == 2) = false := beq_eq_false_iff_ne.2 (by omega)
        have d2 : ((s.length : Int) != 2) = true := bne_iff_ne.2 (by omega)
        have d3 : decide ((s.length : Int) = 2) = false := decide_eq_false (by omega)
        clear h2 HBAD HGO
        go_wp2_with fail
        go_ret
        exact ⟨ret_b2 HF.out.symm, rfl⟩
      obtain ⟨n0, n1, rfl⟩ : ∃ n0 n1, s = [n0, n1] := by
        match s, h2 with
        | [x, y], _ => exact ⟨x, y, rfl⟩
      obtain ⟨b2, off2, rfl, hb2, hc2⟩ := HI.out.cell (Nat.succ_pos _)
      have y0 := hc2 0 (Nat.succ_pos _)
      have y1 := hc2 1 (Nat.lt_succ_self 1)
      rw [Nat.add_zero] at y0
      have y0' : wr.cell? ⟨b2, off2, none⟩ = some (.int .i64 n0) := y0
      have y1' : wr.cell? ⟨b2, off2 + 1, none⟩ = some (.int .i64 n1) := y1
      have HC1 : Hid (Calls Try.prog 75 #[.int .i64 n0] wr fun e w' => e = .returned (.bool (noB n0)) ∧ w' = wr) := (isNo_any n0 wr)
      have HC2 : Hid (Calls Try.prog 67 #[.int .i64 n1] wr fun e w' => e = .returned (.bool (plB n1)) ∧ w' = wr) := (isPlace_any n1 wr)
      have EP : Hid (prB [n0, n1] = (noB n0 && plB n1)) := rfl
      rw [EP.out] at HBAD HGO
      have x0' : wr.cell? ⟨b, off + k, none⟩ = some (.slice (some ⟨b2, off2, none⟩) 2 cq) := x0
      clear y0 y1 hc2 h2 EP x0 hm HI
      generalize noB n0 = r at *
      generalize plB n1 = s at *
      go_wp2_with fail
      refine HC1.out.mono ?_
      rintro e w2 ⟨rfl, hw2⟩
      rw [hw2]
      clear hw2 HC1
      cases r
      · have HF := hid (HBAD.out rfl)
        clear HBAD HGO
        go_wp2_with fail
        go_ret
        exact ⟨ret_b2 HF.out.symm, rfl⟩
      go_wp2_with fail
      refine HC2.out.mono ?_
      rintro e w2 ⟨rfl, hw2⟩
      rw [hw2]
      clear hw2 HC2
      cases s
      · have HF := hid (HBAD.out rfl)
        clear HBAD HGO
        go_wp2_with fail
        go_ret
        exact ⟨ret_b2 HF.out.symm, rfl⟩
      have HG := hid (HGO.out rfl)
      clear HBAD HGO
      go_wp2_with fail
      go_roundw
      case rel => exact ⟨k + 1, by omega, by go_num, HG.out, by trivial⟩
      case measure => simp [intOf]; omega
    · obtain rfl : k = L.length := by omega
      have HF : Hid (prOk L = true) := EA.out.trans (all_all (fun j hj => HALL.out j hj hj))
      go_wp2_with fail
      go_ret
      exact ⟨ret_b2 HF.out.symm, rfl⟩
set_option maxHeartbeats 4000000 in
theorem l13Pairs_any (a : Option Addr) (ka : Nat) (L : List (List Int)) (w : World) (hf : FitR L) (hZ : Js w.heap.size a L w) :
    Calls Try.prog 50 #[.slice a L.length ka] w fun e w' => e = .returned (.bool (prOk L)) ∧ w' = w := by
  have HZ := hid hZ
  have HM := hid hf.2
  have hn := hf.1
  have EG : Hid (prOk L = (decide (L.length ≤ 60) && L.all prB)) := rfl
  clear hZ hf
  have HBADA : Hid (L.all prB = false → prOk L = false) := fun h => by rw [EG.out, h]; simp
  go_enter Try.func50, Try.ntmps50
  go_wp2_with fail
  go_loopw [7] (fun i wr => ∃ k : Nat, k ≤ L.length ∧ i = .int .i64 k ∧ (∀ j (hj : j < L.length), j < k → prB L[j] = true) ∧ wr = w) (fun i _ => L.length - (intOf i).toNat)
  case atStart => exact ⟨0, Nat.zero_le _, rfl, (fun _ _ h => absurd h (Nat.not_lt_zero _)), rfl⟩
  case round =>
    obtain ⟨k, hk, rfl, hall, hwr⟩ := hrel
    subst hwr
    have HALL := hid hall
    clear hall
    by_cases hlt : k < L.length
    · obtain ⟨b, off, rfl, hb, hc⟩ := HZ.out.cell (by omega)
      obtain ⟨q, cq, x0, hI⟩ := hc k hlt
      have hm := HM.out k hlt
      have HBAD : Hid (prB L[k] = false → prOk L = false) := fun h => HBADA.out (all_bad hlt h)
      have HGO : Hid (prB L[k] = true → ∀ j (hj : j < L.length), j < k + 1 → prB L[j] = true) := fun h j hj hjk => by
        by_cases e : j = k
        · subst e; exact h
        · exact HALL.out j hj (by omega)
      clear hc
      generalize L[k] = s at *
      have HI := hid hI
      clear hI
      by_cases h2 : s.length = 2
      case neg =>
        have HF : Hid (prOk L = false) := HBAD.out (by unfold prB; rw [decide_eq_false h2]; rfl)
        have d1 : ((s.length : Int) == 2) = false := beq_eq_false_iff_ne.2 (by omega)
        have d2 : ((s.length : Int) != 2) = true := bne_iff_ne.2 (by omega)
        have d3 : decide ((s.length : Int) = 2) = false := decide_eq_false (by omega)
        clear h2 HBAD HGO
        go_wp2_with fail
        go_ret
        exact ⟨ret_b2 HF.out.symm, rfl⟩
      obtain ⟨n0, n1, rfl⟩ : ∃ n0 n1, s = [n0, n1] := by
        match s, h2 with
        | [x, y], _ => exact ⟨x, y, rfl⟩
      obtain ⟨b2, off2, rfl, hb2, hc2⟩ := HI.out.cell (Nat.succ_pos _)
      have y0 := hc2 0 (Nat.succ_pos _)
      have y1 := hc2 1 (Nat.lt_succ_self 1)
      rw [Nat.add_zero] at y0
      have y0' : wr.cell? ⟨b2, off2, none⟩ = some (.int .i64 n0) := y0
      have y1' : wr.cell? ⟨b2, off2 + 1, none⟩ = some (.int .i64 n1) := y1
      have HC1 : Hid (Calls Try.prog 34 #[.int .i64 n0, .int .i64 1, .int .i64 200] wr fun e w' => e = .returned (.bool (noB n0)) ∧ w' = wr) := (l1In_b n0 1 200 wr)
      have HC2 : Hid (Calls Try.prog 34 #[.int .i64 n1, .int .i64 0, .int .i64 1] wr fun e w' => e = .returned (.bool (plB n1)) ∧ w' = wr) := (l1In_b n1 0 1 wr)
      have EP : Hid (prB [n0, n1] = (noB n0 && plB n1)) := rfl
      rw [EP.out] at HBAD HGO
      have x0' : wr.cell? ⟨b, off + k, none⟩ = some (.slice (some ⟨b2, off2, none⟩) 2 cq) := x0
      clear y0 y1 hc2 h2 EP x0 hm HI
      generalize noB n0 = r at *
      generalize plB n1 = s at *
      go_wp2_with fail
      refine HC1.out.mono ?_
      rintro e w2 ⟨rfl, hw2⟩
      rw [hw2]
      clear hw2 HC1
      cases r
      · have HF := hid (HBAD.out rfl)
        clear HBAD HGO
        go_wp2_with fail
        go_ret
        exact ⟨ret_b2 HF.out.symm, rfl⟩
      go_wp2_with fail
      refine HC2.out.mono ?_
      rintro e w2 ⟨rfl, hw2⟩
      rw [hw2]
      clear hw2 HC2
      cases s
      · have HF := hid (HBAD.out rfl)
        clear HBAD HGO
        go_wp2_with fail
        go_ret
        exact ⟨ret_b2 HF.out.symm, rfl⟩
      have HG := hid (HGO.out rfl)
      clear HBAD HGO
      go_wp2_with fail
      go_roundw
      case rel => exact ⟨k + 1, by omega, by go_num, HG.out, by trivial⟩
      case measure => simp [intOf]; omega
    · obtain rfl : k = L.length := by omega
      have HF : Hid (prOk L = decide (L.length ≤ 60)) := by show prOk L = _; rw [EG.out, all_all (fun j hj => HALL.out j hj hj)]; simp
      by_cases hl : L.length ≤ 60
      · have d1 : decide ((L.length : Int) ≤ 60) = true := decide_eq_true (by omega)
        go_wp2_with fail
        go_ret
        exact ⟨by rw [HF.out, decide_eq_true hl]; rfl, rfl⟩
      · have d1 : decide ((L.length : Int) ≤ 60) = false := decide_eq_false (by omega)
        go_wp2_with fail
        go_ret
        exact ⟨by rw [HF.out, decide_eq_false hl]; rfl, rfl⟩
end Go.Proofs.Ytikmkkklgdkpaaa
