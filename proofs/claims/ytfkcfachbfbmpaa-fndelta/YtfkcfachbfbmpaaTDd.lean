/- The program's DeltaOf. -/
import Derived.Test.YtfkcfachbfbmpaaTDs
import Derived.Test.YtfkcfachbfbmpaaTDm
namespace Go.Proofs.Ytfkcfachbfbmpaa
set_option maxRecDepth 100000
open Go Go.ChangeShapes Go.WideShapes Go.ChangeAt Go.RowKit
theorem drop_ext (s : ByteArray) (i : Nat) : (s.extract i s.size).data.toList = s.data.toList.drop i := by
  rw [ext_list, List.take_of_length_le (by rw [List.length_drop, bytes_size]; omega)]
theorem alike_drop (old s : ByteArray) (p i : Nat) : alkL (old.extract p old.size).data.toList (s.extract i s.size).data.toList = alk old p s i := by
  rw [drop_ext, drop_ext]; rfl
/-- blocks that are alike have one sum -/
theorem sum_alike {old s : ByteArray} {k i : Nat} (h : sumAt old k ≠ ((winR s i : Nat) : Int)) : eqT (blk old k) (s.extract i (i + 4)) = false := by
  cases e : eqT (blk old k) (s.extract i (i + 4))
  · rfl
  · refine absurd ?_ h
    have := (eqT_iff _ _).1 e
    unfold sumAt winR
    rw [← this]
    rfl
theorem alk_four {old s : ByteArray} {k i : Nat} (hk : 4 * k + 4 ≤ old.size) (hi : i + 4 ≤ s.size) (h : eqT (blk old k) (s.extract i (i + 4)) = true) : 4 ≤ alk old (4 * k) s i ∧ i + alk old (4 * k) s i ≤ s.size := by
  have key : ∀ (a b : List UInt8) (n : Nat), n ≤ a.length → n ≤ b.length → (∀ j, j < n → a[j]? = b[j]?) → n ≤ alkL a b ∧ alkL a b ≤ b.length := by
    intro a
    induction a with
    | nil =>
      intro b n h1 _ _
      have : n = 0 := by simpa using h1
      subst this
      cases b <;> simp [alkL]
    | cons x a ih =>
      intro b n h1 h2 h3
      cases b with
      | nil =>
        have : n = 0 := by simpa using h2
        subst this
        simp [alkL]
      | cons y b =>
        by_cases e : x = y
        · subst e
          have := ih b (n - 1) (by simp at h1; omega) (by simp at h2; omega) (fun j hj => by have := h3 (j + 1) (by omega); simpa using this)
          simp only [alkL, if_true, List.length_cons]
          omega
        · have : n = 0 := by
            rcases Nat.eq_zero_or_pos n with h | h
            · exact h
            · have := h3 0 h
              simp at this
              exact absurd this e
          subst this
          simp [alkL, e]
  have := key (old.data.toList.drop (4 * k)) (s.data.toList.drop i) 4 (by rw [List.length_drop, bytes_size]; omega) (by rw [List.length_drop, bytes_size]; omega) (fun j hj => by
    rw [List.getElem?_drop, List.getElem?_drop, get_opt old _ (by omega), get_opt s _ (by omega), blk_eq hk hi h j hj])
  rw [List.length_drop, bytes_size] at this
  exact ⟨this.1, by have := this.2; unfold alk; omega⟩
set_option maxHeartbeats 8000000 in
theorem iDelta_yes (old s : ByteArray) (w : World) (ho : old.size ≤ 120) (hs : s.size ≤ 120) : Calls Try.prog 6 #[.string old, .string s] w (TOut (dlt old s [] 0 0) true w) := by
  have HBS := hid (iBlock_any old w)
  rw [sumsV_yes ho, decide_eq_true ho] at HBS
  have HIT := hid (isText_any s)
  rw [decide_eq_true hs] at HIT
  have HAS : Hid (∀ v, Calls Try.prog 33 #[.string s] v fun e w' => ∃ u, e = .returned u ∧ AL v.heap.size u (alongT s) w' ∧ Below v.heap.size v w') := fun v => by
    by_cases h4 : 4 ≤ s.size
    · exact along_yes s v h4 hs
    · exact along_no s v h4
  have HSL := hid (sumsT_len old)
  have HSA := hid (sumsT_at old)
  have HLL := hid (alongT_len s)
  have HLA := hid (alongT_at s)
  generalize hD0 : dlt old s [] 0 0 = D at *
  have HD0 := hid hD0
  clear hD0
  go_enter Try.func6, Try.ntmps6
  go_wp2_with fail
  go_step3
  go_wp2_with fail
  refine HBS.out.mono ?_
  rintro e w1 ⟨bs, cs, rfl, os, b1⟩
  have HOS := hid os
  have HB1 := hid b1
  clear os b1 HBS
  go_wp2_with fail
  refine (HIT.out _).mono ?_
  rintro e w9 ⟨rfl, hw9⟩
  rw [hw9]
  clear hw9 HIT
  go_wp2_with fail
  refine (HAS.out _).mono ?_
  rintro e w2 ⟨u2, rfl, o2, b2⟩
  obtain ⟨ba, ca, rfl, oa, _⟩ := o2.own
  have HIS := hid (HOS.out.below b2).is
  have HIA := hid oa.is
  have HB2 := hid (HB1.out.trans (b2.mono HB1.out.size))
  clear oa o2 b2 HOS HAS
  have hsl : (sumsT old).length ≤ 30 := by rw [HSL.out]; omega
  have hll : (alongT s).length ≤ 120 := by rw [HLL.out]; omega
  go_wp2_with fail
  go_step3
  go_wp2_with fail
  go_loopw [8, 10, 11] (fun o t v wr => ∃ (acc : List Pt) (told i : Nat) (o1 : Value), told ≤ i ∧ i ≤ s.size ∧ o = o1 ∧ t = .int .i64 told ∧ v = .int .i64 i ∧ GL KT w2.heap.size o1 acc wr ∧ dlt old s acc told i = D ∧ acc.length ≤ i ∧ Below w2.heap.size w2 wr) (fun _ _ v _ => s.size - (intOf v).toNat)
  case atStart => exact ⟨[], 0, 0, _, Nat.le_refl _, Nat.zero_le _, rfl, rfl, rfl, GL.nil _ _ _, HD0.out, Nat.le_refl _, Below.refl _ _⟩
  case round =>
    obtain ⟨acc, told, i, _, htd, hi, rfl, rfl, rfl, hown, hD, hla, hbel⟩ := hrel
    have HOWN := hid hown
    have HD := hid hD
    have HLC := hid hla
    have HBEL := hid hbel
    clear hown hD hla hbel
    by_cases hlt : i < (alongT s).length
    · have dlt0 : decide ((i : Int) < ((alongT s).length : Int)) = true := decide_eq_true (by omega)
      have hi4 : i + 4 ≤ s.size := by have := HLL.out; omega
      go_wp2_with fail
      go_loopw [8, 10, 11, 35] (fun o t v x wr2 => ∃ k m : Nat, o = u8 ∧ t = .int .i64 told ∧ v = .int .i64 i ∧ k ≤ (sumsT old).length ∧ x = .int .i64 k ∧ (∀ j, j < k → eqT (blk old j) (s.extract i (i + 4)) = false) ∧ wr2 = wr.drewN m) (fun _ _ _ x _ => (sumsT old).length - (intOf x).toNat)
      case atStart => exact ⟨0, 0, rfl, rfl, rfl, Nat.zero_le _, rfl, (fun _ h => absurd h (Nat.not_lt_zero _)), rfl⟩
      case round =>
        obtain ⟨k, m, ho8, ht8, hi8, hk, rfl, hall, hwr⟩ := hrel
        subst ho8 ht8 hi8
        have HALL := hid hall
        clear hall
        subst hwr
        by_cases hkl : k < (sumsT old).length
        · obtain ⟨b1, p1, rfl, hb1, hc1⟩ := HIS.out.cell (by omega)
          obtain ⟨b2, p2, rfl, hb2, hc2⟩ := HIA.out.cell (by omega)
          have gm : Below w2.heap.size w2 (wr.drewN m) := HBEL.out.trans ((belowN wr m).mono HBEL.out.size)
          have x0 := (gm.cell (p := ⟨b1, p1 + k, none⟩) hb1).trans (hc1 k hkl)
          have y0 := (gm.cell (p := ⟨b2, p2 + i, none⟩) hb2).trans (hc2 i hlt)
          rw [HSA.out k hkl] at x0
          rw [HLA.out i hlt] at y0
          clear hc1 hc2 gm
          have HBm := hid (HBEL.out.trans ((belowN wr m).mono HBEL.out.size))
          have HOm := hid (HOWN.out.below (belowN wr m))
          have HWS : Hid (∀ n, (wr.drewN m).drewN n = wr.drewN (m + n)) := fun n => World.drewN_drewN _ _ _
          generalize wr.drewN m = WD at *
          have dk : decide ((k : Int) < ((sumsT old).length : Int)) = true := decide_eq_true (by omega)
          have hk4 : 4 * k + 4 ≤ old.size := by have := HSL.out; omega
          have HBK := hid (fun v => blockOf_any old k v (by omega) hk4)
          have hc4 := cut_at s i (i + 4) (i : Int) ((i : Int) + 4) rfl (by omega) (by omega) hi4
          have hiw : IntKind.i64.wrap ((i : Int) + 4) = (i : Int) + 4 := by rw [IntKind.wrap_i64]; omega
          have hib : (i : Int) < ((alongT s).length : Int) := by omega
          have hkb : (k : Int) < ((sumsT old).length : Int) := by omega
          by_cases hsum : sumAt old k = ((winR s i : Nat) : Int)
          · have dn : (sumAt old k != ((winR s i : Nat) : Int)) = false := by rw [hsum]; simp
            cases he : eqT (blk old k) (s.extract i (i + 4))
            · have HX : Hid (∀ j, j < k + 1 → eqT (blk old j) (s.extract i (i + 4)) = false) := fun j hj => by
                by_cases e : j = k
                · subst e; exact he
                · exact HALL.out j (by omega)
              unfold eqT blk at he
              clear hsum
              generalize old.extract (4 * k) (4 * k + 4) = B at *
              generalize hE : s.extract i (i + 4) = E at *
              have HE := hid hE
              clear hE
              generalize sumAt old k = x at *
              generalize winR s i = y at *
              go_wp2_with fail
              go_quiet ((go_at_call 34; exact Calls.quiet_of_same (HBK.out _)))
              go_wp2_with fail
              go_roundw
              case rel => exact ⟨k + 1, _, rfl, rfl, rfl, by omega, by go_num, HX.out, HWS.out _⟩
              case measure => simp [intOf]; omega
            · have HN := hid (findB_is old _ k (by have := HSL.out; omega) he HALL.out)
              have HH : Hid (∀ n, alk old (4 * k) s i = n → 1 ≤ n → dlt old s (acc ++ txtP s told i ++ [⟨((4 * k : Nat) : Int), (n : Int), ByteArray.empty⟩]) (i + n) (i + n) = D) := fun n h1 h2 => by
                rw [← HD.out]
                exact (dlt_hit hi4 (by have := HSL.out; omega) HN.out h1 h2).symm
              have HEQ : Hid (4 ≤ alk old (4 * k) s i ∧ i + alk old (4 * k) s i ≤ s.size) := alk_four hk4 hi4 he
              have hq4 : (k : Int) * 4 = ((4 * k : Nat) : Int) := by omega
              have hqw : IntKind.i64.wrap ((4 * k : Nat) : Int) = ((4 * k : Nat) : Int) := wrap_nat (4 * k) (by omega)
              have hcf1 := cut_from old (4 * k) ((4 * k : Nat) : Int) rfl (by omega)
              have hcf2 := cut_from s i (i : Int) rfl (by omega)
              have HAL := hid (fun v => alike_any (old.extract (4 * k) old.size) (s.extract i s.size) v (by rw [ext_size _ _ _ (by omega) (Nat.le_refl _)]; omega))
              rw [alike_drop] at HAL
              have hct := cut_at s told i (told : Int) (i : Int) rfl rfl htd (by omega)
              unfold eqT blk at he
              clear hsum
              generalize old.extract (4 * k) (4 * k + 4) = B at *
              generalize s.extract i (i + 4) = E at *
              generalize old.extract (4 * k) old.size = OE at *
              generalize s.extract i s.size = SE at *
              generalize hn : alk old (4 * k) s i = n at *
              have HNN := hid (HH.out n rfl (by have := HEQ.out.1; omega))
              have hn1 := HEQ.out.1
              have hn2 := HEQ.out.2
              clear HH hn
              have hq120 : 4 * k ≤ 120 := by omega
              generalize 4 * k = q at *
              generalize sumAt old k = x at *
              generalize winR s i = y at *
              go_wp2_with fail
              go_quiet ((go_at_call 34; exact Calls.quiet_of_same (HBK.out _)))
              have HBq := hid (HBm.out.trans ((belowN WD nq).mono HBm.out.size))
              have HOq := hid (HOm.out.below (belowN WD nq))
              generalize WD.drewN nq = WE at *
              go_wp2_with fail
              go_quiet ((go_at_call 35; exact Calls.quiet_of (HAL.out _)))
              have HBr := hid (HBq.out.trans ((belowN WE nq).mono HBq.out.size))
              have HOr := hid (HOq.out.below (belowN WE nq))
              generalize WE.drewN nq = WF at *
              have HWT := hid (withText_any w2.heap.size u8 acc s told i WF htd (by omega) (by omega) (by have := HLC.out; omega) HBr.out.size HOr.out)
              generalize s.extract told i = ET at *
              go_wp2_with fail
              refine HWT.out.mono ?_
              rintro e w5 ⟨v5, rfl, o5, b5⟩
              have hl5 : (acc ++ txtP s told i).length ≤ i + 1 := by rw [List.length_append]; have := txtP_len s told i; have := HLC.out; omega
              obtain ⟨v6, w6, r6, o6, g6⟩ := o5.pushT (Nat.le_trans HBr.out.size b5.size) ⟨(q : Int), (n : Int), ByteArray.empty⟩ (by omega)
              have HO6 := hid o6
              have HB6 := hid (HBr.out.trans (b5.trans g6))
              have HL6 : Hid ((acc ++ txtP s told i ++ [⟨(q : Int), (n : Int), ByteArray.empty⟩] : List Pt).length ≤ i + n) := by
                show _ ≤ _
                rw [List.length_append]
                simp only [List.length_cons, List.length_nil]
                omega
              clear o5 b5 o6 g6 hl5
              go_wp2_with (at_builtin; refine wpList_append_run rfl (.tmp 70) (.tmp 75) 25 rfl _ _ rfl rfl _ _ r6 ?_)
              go_roundw
              case rel => exact ⟨_, i + n, i + n, _, Nat.le_refl _, by omega, rfl, by go_num, by go_num, HO6.out, HNN.out, HL6.out, HB6.out⟩
              case measure => simp [intOf]; omega
          · have dn : (sumAt old k != ((winR s i : Nat) : Int)) = true := bne_iff_ne.2 hsum
            have HX : Hid (∀ j, j < k + 1 → eqT (blk old j) (s.extract i (i + 4)) = false) := fun j hj => by
              by_cases e : j = k
              · subst e; exact sum_alike hsum
              · exact HALL.out j (by omega)
            clear hsum
            generalize sumAt old k = x at *
            generalize winR s i = y at *
            go_wp2_with fail
            go_quiet (fail)
            go_wp2_with fail
            go_roundw
            case rel => exact ⟨k + 1, _, rfl, rfl, rfl, by omega, by go_num, HX.out, HWS.out _⟩
            case measure => simp [intOf]; omega
        · have dk : decide ((k : Int) < ((sumsT old).length : Int)) = false := decide_eq_false (by omega)
          have HM := hid (dlt_miss (acc := acc) (told := told) hi4 (findB_none old (s.extract i (i + 4)) (fun j hj => HALL.out j (by have := HSL.out; omega))))
          have HBm := hid (HBEL.out.trans ((belowN wr m).mono HBEL.out.size))
          have HOm := hid (HOWN.out.below (belowN wr m))
          generalize wr.drewN m = WD at *
          go_wp2_with fail
          go_roundw
          case rel => exact ⟨acc, told, i + 1, _, by omega, by omega, rfl, rfl, by go_num, HOm.out, by rw [← HM.out]; exact HD.out, by have := HLC.out; omega, HBm.out⟩
          case measure => simp [intOf]; omega
    · have dlt0 : decide ((i : Int) < ((alongT s).length : Int)) = false := decide_eq_false (by omega)
      have HE : Hid (acc ++ txtP s told s.size = D) := by show _ = _; rw [← HD.out, dlt_end (by have := HLL.out; omega)]
      have hcf := cut_from s told (told : Int) rfl (by omega)
      have HWT := hid (withText_any w2.heap.size u8 acc s told s.size wr (by omega) (Nat.le_refl _) (by omega) (by have := HLC.out; omega) HBEL.out.size HOWN.out)
      generalize s.extract told s.size = ET at *
      go_wp2_with fail
      refine HWT.out.mono ?_
      rintro e w5 ⟨v5, rfl, o5, b5⟩
      rw [HE.out] at o5
      have HO5 := hid o5
      have HB5 := hid (HB2.out.trans ((HBEL.out.trans b5).mono HB2.out.size))
      clear o5 b5
      go_wp2_with fail
      (try rw [Exit.noGoto_ret])
      go_ret2
      exact TOut.yes (HO5.out.mono HB2.out.size) HB5.out
/-- what DeltaOf answers -/
def dltOk (old s : ByteArray) : Bool := decide (old.size ≤ 120) && decide (s.size ≤ 120)
def dltV (old s : ByteArray) : List Pt := cond (dltOk old s) (dlt old s [] 0 0) []
theorem dltV_yes {old s : ByteArray} (h1 : old.size ≤ 120) (h2 : s.size ≤ 120) : dltOk old s = true ∧ dltV old s = dlt old s [] 0 0 := by
  have : dltOk old s = true := by unfold dltOk; rw [decide_eq_true h1, decide_eq_true h2]; rfl
  exact ⟨this, by unfold dltV; rw [this]; rfl⟩
theorem dltV_no {old s : ByteArray} (h : ¬ (old.size ≤ 120 ∧ s.size ≤ 120)) : dltOk old s = false ∧ dltV old s = [] := by
  have : dltOk old s = false := by
    unfold dltOk
    by_cases h1 : old.size ≤ 120
    · rw [decide_eq_true h1, decide_eq_false (fun h2 => h ⟨h1, h2⟩)]; rfl
    · rw [decide_eq_false h1]; rfl
  exact ⟨this, by unfold dltV; rw [this]; rfl⟩
theorem dltV_len (old s : ByteArray) : (dltV old s).length ≤ 1000 := by
  by_cases h : old.size ≤ 120 ∧ s.size ≤ 120
  · rw [(dltV_yes h.1 h.2).2]
    have := dlt_len old s 120 [] 0 0 (by omega)
    simp only [List.length_nil] at this
    omega
  · rw [(dltV_no h).2]
    exact Nat.zero_le _
set_option maxHeartbeats 1000000 in
theorem iDelta_any (old s : ByteArray) (w : World) : Calls Try.prog 6 #[.string old, .string s] w (TOut (dltV old s) (dltOk old s) w) := by
  by_cases h : old.size ≤ 120 ∧ s.size ≤ 120
  · rw [(dltV_yes h.1 h.2).1, (dltV_yes h.1 h.2).2]
    exact iDelta_yes old s w h.1 h.2
  · rw [(dltV_no h).1, (dltV_no h).2]
    have HBS := hid (iBlock_any old w)
    have HIT := hid (isText_any s)
    by_cases h1 : old.size ≤ 120
    · rw [sumsV_yes h1, decide_eq_true h1] at HBS
      rw [decide_eq_false (fun h2 => h ⟨h1, h2⟩)] at HIT
      clear h
      go_enter Try.func6, Try.ntmps6
      go_wp2_with fail
      go_step3
      go_wp2_with fail
      refine HBS.out.mono ?_
      rintro e w1 ⟨bs, cs, rfl, os, b1⟩
      have HB1 := hid b1
      clear os b1 HBS
      go_wp2_with fail
      refine (HIT.out _).mono ?_
      rintro e w9 ⟨rfl, hw9⟩
      rw [hw9]
      clear hw9 HIT
      go_wp2_with fail
      (try rw [Exit.noGoto_ret])
      go_ret2
      exact TOut.no HB1.out
    · rw [sumsV_no h1, decide_eq_false h1] at HBS
      clear h
      go_enter Try.func6, Try.ntmps6
      go_wp2_with fail
      go_step3
      go_wp2_with fail
      refine HBS.out.mono ?_
      rintro e w1 ⟨bs, cs, rfl, os, b1⟩
      have HB1 := hid b1
      clear os b1 HBS
      go_wp2_with fail
      (try rw [Exit.noGoto_ret])
      go_ret2
      exact TOut.no HB1.out
set_option maxHeartbeats 1000000 in
theorem sDeltaOf_any (old s : ByteArray) (w : World) : Calls Try.prog 7 #[.string old, .string s] w (TOut (dltV old s) (dltOk old s) w) := by
  have HL1 := hid (long_any old)
  have HL2 := hid (long_any s)
  by_cases h1 : old.size ≤ 120
  · rw [decide_eq_true h1] at HL1
    by_cases h2 : s.size ≤ 120
    · rw [decide_eq_true h2] at HL2
      rw [(dltV_yes h1 h2).1, (dltV_yes h1 h2).2]
      have HD := hid (sDelta_any old s w h1 h2)
      generalize dlt old s [] 0 0 = D at *
      go_enter Try.func7, Try.ntmps7
      go_wp2_with fail
      refine (HL1.out _).mono ?_
      rintro e w9 ⟨rfl, hw9⟩
      rw [hw9]
      clear hw9
      go_wp2_with fail
      refine (HL2.out _).mono ?_
      rintro e w9 ⟨rfl, hw9⟩
      rw [hw9]
      clear hw9
      go_wp2_with fail
      refine HD.out.mono ?_
      rintro e w1 ⟨v1, rfl, o1, b1⟩
      have HO1 := hid o1
      have HB1 := hid b1
      clear o1 b1
      go_wp2_with fail
      go_ret2
      exact TOut.yes HO1.out HB1.out
    · rw [decide_eq_false h2] at HL2
      rw [(dltV_no (fun h => h2 h.2)).1, (dltV_no (fun h => h2 h.2)).2]
      go_enter Try.func7, Try.ntmps7
      go_wp2_with fail
      refine (HL1.out _).mono ?_
      rintro e w9 ⟨rfl, hw9⟩
      rw [hw9]
      clear hw9
      go_wp2_with fail
      refine (HL2.out _).mono ?_
      rintro e w9 ⟨rfl, hw9⟩
      rw [hw9]
      clear hw9
      go_wp2_with fail
      go_ret2
      exact TOut.no (Below.refl _ _)
  · rw [decide_eq_false h1] at HL1
    rw [(dltV_no (fun h => h1 h.1)).1, (dltV_no (fun h => h1 h.1)).2]
    go_enter Try.func7, Try.ntmps7
    go_wp2_with fail
    refine (HL1.out _).mono ?_
    rintro e w9 ⟨rfl, hw9⟩
    rw [hw9]
    clear hw9
    go_wp2_with fail
    go_ret2
    exact TOut.no (Below.refl _ _)
end Go.Proofs.Ytfkcfachbfbmpaa
