/- LackedBy: the program and the model. -/
import Derived.Test.YtipeillhafcliaaJRoot
namespace Go.Proofs.Ytipeillhafcliaa
set_option maxRecDepth 100000
open Go Go.ChangeShapes Go.WideShapes Go.ChangeAt Go.RowKit Go.Maps
def lackH (own sums : List Int) : List Int := powV own (sums.length : Int)
def lackP (own sums : List Int) : List Int := lessV sums (lackH own sums)
def lackE (own sums : List Int) : List Int := elemV (lackP own sums)
def lackR (own sums : List Int) : List Int := rootV (lackE own sums)
def lackAny (own sums : List Int) : Bool := (lackR own sums).any fun x => decide (x ∈ own)
def lackC (own sums : List Int) : Bool := powOk own (sums.length : Int) && decide (own.length + sums.length ≤ 20)
def lackT (own sums : List Int) : Bool := (lessOk sums (lackH own sums) && elemOk (lackP own sums)) && rootOk (lackE own sums)
/-- whether the lacked numbers are told -/
def lackOk (own sums : List Int) : Bool := (lackC own sums && lackT own sums) && !lackAny own sums
def lackV (own sums : List Int) : List Int := bif lackOk own sums then lackR own sums else []
theorem lackV_yes {own sums : List Int} (h : lackOk own sums = true) : lackV own sums = lackR own sums := by unfold lackV; rw [h]; rfl
theorem lackV_no {own sums : List Int} (h : lackOk own sums = false) : lackV own sums = [] := by unfold lackV; rw [h]; rfl
theorem lack_no1 {own sums : List Int} (h : lackC own sums = false) : lackOk own sums = false := by unfold lackOk; rw [h]; rfl
theorem lack_no2 {own sums : List Int} (h : lackT own sums = false) : lackOk own sums = false := by unfold lackOk; rw [h, Bool.and_false]; rfl
theorem lack_no3 {own sums : List Int} (h : lackAny own sums = true) : lackOk own sums = false := by unfold lackOk; rw [h]; simp
theorem lack_yes {own sums : List Int} (h1 : lackC own sums = true) (h2 : lackT own sums = true) (h3 : lackAny own sums = false) : lackOk own sums = true := by unfold lackOk; rw [h1, h2, h3]; rfl
theorem lackV_len (own sums : List Int) : (lackV own sums).length ≤ 4 := by
  cases h : lackOk own sums
  · rw [lackV_no h]; exact Nat.zero_le _
  · rw [lackV_yes h]; exact rootV_len _
theorem upB_pair : ∀ (l : List Int) (lo : Int), upB lo l = true → (∀ x ∈ l, lo < x) ∧ l.Pairwise (fun a b => a < b)
  | [], _, _ => ⟨fun _ h => absurd h List.not_mem_nil, List.Pairwise.nil⟩
  | y :: l, lo, hu => by
    have hu' : ((decide (lo < y) && decide (y ≤ 60)) && upB y l) = true := hu
    simp only [Bool.and_eq_true, decide_eq_true_eq] at hu'
    obtain ⟨h1, h2⟩ := upB_pair l y hu'.2
    refine ⟨fun x hx => ?_, List.Pairwise.cons h1 h2⟩
    rcases List.mem_cons.1 hx with rfl | hx
    · exact hu'.1.1
    · have := h1 x hx; omega
theorem goodS_rising {l : List Int} (h : goodS l = true) : l.Pairwise (fun a b => a < b) := by
  unfold goodS at h
  rw [Bool.and_eq_true] at h
  exact (upB_pair l 0 h.2).2
theorem rootV_fit (e : List Int) : ∀ x ∈ rootV e, fit x := by
  intro x hx
  cases h : rootOk e
  · rw [rootV_no h] at hx; cases hx
  · rw [rootV_yes h] at hx
    have := nums_mem.1 (List.mem_filter.1 hx).1
    unfold fit
    omega
theorem OwnJ.cap {lo hi : Nat} {a : Option Addr} {l : List Int} {w : World} (h : OwnJ lo hi a l w) (v : World) (g : Below w.heap.size w v) : Is v.heap.size a l v := (h.below g).is
theorem lack_eq (own sums H P E R : List Int) (h1 : powV own (sums.length : Int) = H) (h2 : lessV sums H = P) (h3 : elemV P = E) (h4 : rootV E = R) :
    lackOk own sums = (((powOk own (sums.length : Int) && decide (own.length + sums.length ≤ 20)) && ((lessOk sums H && elemOk P) && rootOk E)) && !(R.any fun x => decide (x ∈ own))) ∧ lackR own sums = R := by
  subst h1 h2 h3 h4
  exact ⟨rfl, rfl⟩
set_option maxHeartbeats 4000000 in
theorem iLack_any (pa pb : Option Addr) (ca cb : Nat) (own sums : List Int) (w : World) (hna : own.length ≤ 1048576) (hnb : sums.length ≤ 1048576) (hA : Is w.heap.size pa own w) (hB : Is w.heap.size pb sums w) :
    Calls Try.prog 13 #[.slice pa own.length ca, .slice pb sums.length cb] w (JOut (lackV own sums) (lackOk own sums) w) := by
  have HA : Hid (∀ v, Below w.heap.size w v → Is v.heap.size pa own v) := fun v g => (hA.below g).mono g.size
  have HB : Hid (∀ v, Below w.heap.size w v → Is v.heap.size pb sums v) := fun v g => (hB.below g).mono g.size
  have H1 := hid (iPow_any pa ca own (sums.length : Int) w hna hA)
  clear hA hB
  obtain ⟨H, hH⟩ : ∃ H, powV own (sums.length : Int) = H := ⟨_, rfl⟩
  obtain ⟨P, hP⟩ : ∃ P, lessV sums H = P := ⟨_, rfl⟩
  obtain ⟨E, hE⟩ : ∃ E, elemV P = E := ⟨_, rfl⟩
  obtain ⟨R, hR⟩ : ∃ R, rootV E = R := ⟨_, rfl⟩
  have HL := hid (lack_eq own sums H P E R hH hP hE hR)
  have LH := hid (by rw [← hH]; exact powV_len own _ : H.length ≤ 4)
  have LP := hid (by rw [← hP]; exact lessV_len sums H : P.length ≤ 1048576)
  have LE := hid (by rw [← hE]; exact elemV_len P : E.length ≤ 4)
  have LR := hid (by rw [← hR]; exact rootV_len E : R.length ≤ 4)
  have FR := hid (by rw [← hR]; exact rootV_fit E : ∀ x ∈ R, fit x)
  have HP := hid hP
  have HE := hid hE
  have HR := hid hR
  rw [hH] at H1
  obtain ⟨VV, hVV⟩ : ∃ V, lackV own sums = V := ⟨_, rfl⟩
  obtain ⟨oo, hoo⟩ : ∃ o, lackOk own sums = o := ⟨_, rfl⟩
  have HNO : Hid (lackOk own sums = false → VV = [] ∧ oo = false) := fun h => ⟨by rw [← hVV]; exact lackV_no h, by rw [← hoo]; exact h⟩
  have HYE : Hid (lackOk own sums = true → VV = R ∧ oo = true) := fun h => ⟨by rw [← hVV, lackV_yes h]; exact HL.out.2, by rw [← hoo]; exact h⟩
  rw [hVV, hoo]
  clear hVV hoo hH hP hE hR
  go_enter Try.func13, Try.ntmps13
  go_wp2_with fail
  refine H1.out.mono ?_
  rintro en w1 ⟨b1, c1, rfl, o1, g1, hc1⟩
  have O1 := hid o1
  have G1 := hid g1
  have s1 := g1.size
  clear o1 g1 H1
  cases h1 : powOk own (sums.length : Int)
  · obtain ⟨rfl, rfl⟩ := HNO.out (by rw [HL.out.1, h1]; rfl)
    go_wp2
    go_ret2
    exact JOut.no G1.out
  have h1' := h1
  unfold powOk at h1'
  rw [Bool.and_eq_true] at h1'
  have hup := uptoB_iff.1 h1'.2
  have HRI := hid (goodS_rising h1'.1)
  have HFE := hid (goodS_few h1'.1)
  by_cases hlen : own.length + sums.length ≤ 20
  case neg =>
    obtain ⟨rfl, rfl⟩ := HNO.out (by rw [HL.out.1, decide_eq_false hlen, Bool.and_false]; rfl)
    have dl : decide ((20 : Int) - (sums.length : Int) < (own.length : Int)) = true := decide_eq_true (by omega)
    clear h1' hlen
    go_wp2
    go_ret2
    exact JOut.no G1.out
  have dl : decide ((20 : Int) - (sums.length : Int) < (own.length : Int)) = false := decide_eq_false (by omega)
  rw [h1, decide_eq_true hlen] at HL
  have H2 := hid (iLess_any pb b1 cb c1 sums H w1 hnb (Nat.le_trans LH.out (by decide)) (HB.out w1 G1.out) O1.out.is)
  rw [HP.out] at H2
  clear h1 h1' hlen hup
  go_wp2_with fail
  refine H2.out.mono ?_
  rintro en w2 ⟨b2, c2, rfl, o2, g2, hc2⟩
  have s2 := g2.size
  have O2 := hid o2
  have G2 : Hid (Below w.heap.size w w2) := G1.out.trans (g2.mono s1)
  clear o2 g2 H2 O1
  cases h2 : lessOk sums H
  · obtain ⟨rfl, rfl⟩ := HNO.out (by rw [HL.out.1, h2]; rfl)
    go_wp2
    go_ret2
    exact JOut.no G2.out
  rw [h2] at HL
  have H3 := hid (iElem_any b2 c2 P w2 LP.out hc2 O2.out.is)
  rw [HE.out] at H3
  clear h2
  go_wp2_with fail
  refine H3.out.mono ?_
  rintro en w3 ⟨b3, c3, rfl, o3, g3, hc3⟩
  have s3 := g3.size
  have O3 := hid o3
  have G3 : Hid (Below w.heap.size w w3) := G2.out.trans (g3.mono (Nat.le_trans s1 s2))
  clear o3 g3 H3 O2
  cases h3 : elemOk P
  · obtain ⟨rfl, rfl⟩ := HNO.out (by rw [HL.out.1, h3]; rfl)
    go_wp2
    go_ret2
    exact JOut.no G3.out
  rw [h3] at HL
  have H4 := hid (iRoot_any b3 c3 E w3 (Nat.le_trans LE.out (by decide)) O3.out.is)
  rw [HR.out] at H4
  clear h3
  go_wp2_with fail
  refine H4.out.mono ?_
  rintro en w4 ⟨b4, c4, rfl, o4, g4, hc4⟩
  have s4 := g4.size
  have O4 := hid o4
  have G4 : Hid (Below w.heap.size w w4) := G3.out.trans (g4.mono (Nat.le_trans s1 (Nat.le_trans s2 s3)))
  clear o4 g4 H4 O3
  cases h4 : rootOk E
  · obtain ⟨rfl, rfl⟩ := HNO.out (by rw [HL.out.1, h4]; rfl)
    go_wp2
    go_ret2
    exact JOut.no G4.out
  rw [h4] at HL
  have H5 := hid (newSet_any pa ca own w4 (by have := HFE.out.1; omega) (rising_nodup HRI.out) (fun x hx => by
    obtain ⟨j, hj, rfl⟩ := List.getElem_of_mem hx
    have := HFE.out.2 j hj
    unfold fit
    omega) (HA.out w4 G4.out))
  clear h4
  go_wp2_with fail
  refine H5.out.mono ?_
  rintro en w5 ⟨rfl, hs5, g5⟩
  have O5 := hid (O4.out.below g5)
  have s5 := g5.size
  have G5 : Hid (Below w.heap.size w w5) := G4.out.trans (g5.mono (Nat.le_trans s1 (Nat.le_trans s2 (Nat.le_trans s3 s4))))
  have H6 := hid (hasSome_any w4.heap.size own b4 c4 R w5 (Nat.le_trans LR.out (by decide)) FR.out hs5 O5.out.is)
  clear hs5 g5 H5 O4
  obtain ⟨an, han⟩ : ∃ an, (R.any fun x => decide (x ∈ own)) = an := ⟨_, rfl⟩
  rw [han] at H6 HL
  clear han
  go_wp2_with fail
  refine H6.out.mono ?_
  rintro en w6 ⟨rfl, g6⟩
  have O6 := hid (O5.out.below g6)
  have G6 : Hid (Below w.heap.size w w6) := G5.out.trans (g6.mono (Nat.le_trans s1 (Nat.le_trans s2 (Nat.le_trans s3 (Nat.le_trans s4 s5)))))
  have s6 := g6.size
  clear g6 H6 O5
  cases an
  · obtain ⟨rfl, rfl⟩ := HYE.out HL.out.1
    go_wp2
    go_ret2
    exact ⟨b4, c4, rfl, O6.out.mono (by omega) (by omega), G6.out, hc4⟩
  · obtain ⟨rfl, rfl⟩ := HNO.out HL.out.1
    go_wp2
    go_ret2
    exact JOut.no G6.out
set_option maxHeartbeats 1000000 in
theorem hasJ_any (a : Option Addr) (cap : Nat) (l : List Int) (x : Int) (w : World) (hn : l.length ≤ 1048576) (hZ : Is w.heap.size a l w) :
    Calls Try.prog 39 #[.slice a l.length cap, .int .i64 x] w fun e w' => e = .returned (.bool (decide (x ∈ l))) ∧ w' = w := by
  have HZ := hid hZ
  clear hZ
  obtain ⟨an, han⟩ : ∃ an, decide (x ∈ l) = an := ⟨_, rfl⟩
  rw [han]
  have HAN := hid han
  clear han
  go_enter Try.func39, Try.ntmps39
  go_wp2
  go_loopw [9] (fun i wr => ∃ k : Nat, k ≤ l.length ∧ i = .int .i64 k ∧ (∀ j (h : j < l.length), j < k → l[j] ≠ x) ∧ wr = w) (fun i _ => l.length - (intOf i).toNat)
  case atStart => exact ⟨0, Nat.zero_le _, rfl, (fun _ _ h => absurd h (Nat.not_lt_zero _)), rfl⟩
  case round =>
    obtain ⟨k, hk, rfl, hall, hwr⟩ := hrel
    subst hwr
    have HALL := hid hall
    clear hall
    by_cases hlt : k < l.length
    · obtain ⟨b, off, rfl, hb, hc⟩ := HZ.out.cell (by omega)
      have x0 := hc k hlt
      clear hc
      by_cases hx : l[k] = x
      · have ha : an = true := by rw [← HAN.out]; exact decide_eq_true (by rw [← hx]; exact List.getElem_mem hlt)
        subst ha
        have hd : (l[k] == x) = true := by simpa using hx
        clear hx
        generalize l[k] = y at *
        go_wp2
        go_ret
        exact ⟨rfl, rfl⟩
      · have HL : Hid (∀ j (h : j < l.length), j < k + 1 → l[j] ≠ x) := fun j hj hjk => by
          by_cases e : j = k
          · subst e; exact hx
          · exact HALL.out j hj (by omega)
        have hd : (l[k] == x) = false := by simpa using hx
        clear hx
        generalize l[k] = y at *
        go_wp2
        go_roundw
        case rel => exact ⟨k + 1, by omega, by go_num, HL.out, by trivial⟩
        case measure => simp [intOf]; omega
    · obtain rfl : k = l.length := by omega
      have ha : an = false := by
        rw [← HAN.out]
        refine decide_eq_false fun hm => ?_
        obtain ⟨j, hj, e⟩ := List.getElem_of_mem hm
        exact HALL.out j hj hj e
      subst ha
      go_wp2
      go_ret
      exact ⟨rfl, rfl⟩
set_option maxHeartbeats 4000000 in
theorem sLack_any (pa pb : Option Addr) (ca cb : Nat) (own sums : List Int) (w : World) (hna : own.length ≤ 1048576) (hnb : sums.length ≤ 1048576) (hA : Is w.heap.size pa own w) (hB : Is w.heap.size pb sums w) :
    Calls Try.prog 15 #[.slice pa own.length ca, .slice pb sums.length cb] w (JOut (lackV own sums) (lackOk own sums) w) := by
  have HA : Hid (∀ v, Below w.heap.size w v → Is v.heap.size pa own v) := fun v g => (hA.below g).mono g.size
  have HB : Hid (∀ v, Below w.heap.size w v → Is v.heap.size pb sums v) := fun v g => (hB.below g).mono g.size
  have C1 := hid (sgoodS_any pa ca own w hna hA)
  have C2 := hid (l12Numbers_any pb cb sums w hnb hB)
  have HAW := hid hA
  clear hA hB
  obtain ⟨H, hH⟩ : ∃ H, powV own (sums.length : Int) = H := ⟨_, rfl⟩
  obtain ⟨P, hP⟩ : ∃ P, lessV sums H = P := ⟨_, rfl⟩
  obtain ⟨E, hE⟩ : ∃ E, elemV P = E := ⟨_, rfl⟩
  obtain ⟨R, hR⟩ : ∃ R, rootV E = R := ⟨_, rfl⟩
  have HL := hid (lack_eq own sums H P E R hH hP hE hR)
  have LH := hid (by rw [← hH]; exact powV_len own _ : H.length ≤ 4)
  have LP := hid (by rw [← hP]; exact lessV_len sums H : P.length ≤ 1048576)
  have LE := hid (by rw [← hE]; exact elemV_len P : E.length ≤ 4)
  have LR := hid (by rw [← hR]; exact rootV_len E : R.length ≤ 4)
  have HP := hid hP
  have HE := hid hE
  have HR := hid hR
  have HHH := hid hH
  obtain ⟨VV, hVV⟩ : ∃ V, lackV own sums = V := ⟨_, rfl⟩
  obtain ⟨oo, hoo⟩ : ∃ o, lackOk own sums = o := ⟨_, rfl⟩
  have HNO : Hid (lackOk own sums = false → VV = [] ∧ oo = false) := fun h => ⟨by rw [← hVV]; exact lackV_no h, by rw [← hoo]; exact h⟩
  have HYE : Hid (lackOk own sums = true → VV = R ∧ oo = true) := fun h => ⟨by rw [← hVV, lackV_yes h]; exact HL.out.2, by rw [← hoo]; exact h⟩
  rw [hVV, hoo]
  clear hVV hoo hH hP hE hR
  go_enter Try.func15, Try.ntmps15
  go_wp2_with fail
  refine C1.out.mono ?_
  rintro en w0 ⟨rfl, hw0⟩
  rw [hw0]
  clear hw0 C1
  cases h0 : goodS own
  · obtain ⟨rfl, rfl⟩ := HNO.out (by rw [HL.out.1, powOk_no1 h0]; rfl)
    go_wp2
    go_ret2
    exact JOut.no (Below.refl _ _)
  go_wp2_with fail
  refine C2.out.mono ?_
  rintro en w0 ⟨rfl, hw0⟩
  rw [hw0]
  clear hw0 C2
  cases h1 : goodN sums
  · obtain ⟨rfl, rfl⟩ := HNO.out (by rw [HL.out.1, pair_no2 h1]; simp)
    go_wp2
    go_ret2
    exact JOut.no (Below.refl _ _)
  have hn4 := goodN_len h1
  have hup : uptoB (sums.length : Int) = true := uptoB_iff.2 (by omega)
  have hpk := powOk_yes h0 hup
  have HFE := hid (goodS_few h0)
  by_cases hlen : own.length + sums.length ≤ 20
  case neg =>
    obtain ⟨rfl, rfl⟩ := HNO.out (by rw [HL.out.1, decide_eq_false hlen, Bool.and_false]; rfl)
    have dl : decide ((20 : Int) - (sums.length : Int) < (own.length : Int)) = true := decide_eq_true (by omega)
    clear hlen h0 h1 hup hpk
    go_wp2
    go_ret2
    exact JOut.no (Below.refl _ _)
  have dl : decide ((20 : Int) - (sums.length : Int) < (own.length : Int)) = false := decide_eq_false (by omega)
  rw [hpk, decide_eq_true hlen] at HL
  have H1 := hid (l12Powers_any pa ca own sums.length w HAW.out HFE.out hn4)
  have eH : powL own sums.length = H := by
    have := HHH.out
    rw [powV_yes hpk, Int.toNat_natCast] at this
    exact this
  rw [eH] at H1
  clear hlen h0 h1 hup hpk eH
  go_wp2_with fail
  refine H1.out.mono ?_
  rintro en w1 ⟨v1, rfl, o1, g1⟩
  obtain ⟨b1, c1, rfl, o1', hc1⟩ := o1.own
  have O1 := hid o1'
  have G1 := hid g1
  have s1 := g1.size
  have H2 := hid (sLess_any pb b1 cb c1 sums H w1 hnb (Nat.le_trans LH.out (by decide)) (HB.out w1 g1) o1'.is)
  rw [HP.out] at H2
  clear o1 o1' g1 H1
  go_wp2_with fail
  refine H2.out.mono ?_
  rintro en w2 ⟨b2, c2, rfl, o2, g2, hc2⟩
  have s2 := g2.size
  have O2 := hid o2
  have G2 : Hid (Below w.heap.size w w2) := G1.out.trans (g2.mono s1)
  have H3 := hid (sElem_any b2 c2 P w2 LP.out o2.is)
  rw [HE.out] at H3
  clear o2 g2 H2 O1
  generalize lessOk sums H = x1 at *
  go_wp2_with fail
  refine H3.out.mono ?_
  rintro en w3 ⟨b3, c3, rfl, o3, g3, hc3⟩
  have s3 := g3.size
  have O3 := hid o3
  have G3 : Hid (Below w.heap.size w w3) := G2.out.trans (g3.mono (Nat.le_trans s1 s2))
  have H4 := hid (sRoot_any b3 c3 E w3 (Nat.le_trans LE.out (by decide)) o3.is)
  rw [HR.out] at H4
  clear o3 g3 H3 O2
  generalize elemOk P = x2 at *
  go_wp2_with fail
  refine H4.out.mono ?_
  rintro en w4 ⟨b4, c4, rfl, o4, g4, hc4⟩
  have s4 := g4.size
  have O4 := hid o4
  have G4 : Hid (Below w.heap.size w w4) := G3.out.trans (g4.mono (Nat.le_trans s1 (Nat.le_trans s2 s3)))
  clear o4 g4 H4 O3
  generalize rootOk E = x3 at *
  cases x1
  · obtain ⟨rfl, rfl⟩ := HNO.out HL.out.1
    go_wp2
    go_ret2
    exact JOut.no G4.out
  cases x2
  · obtain ⟨rfl, rfl⟩ := HNO.out HL.out.1
    go_wp2
    go_ret2
    exact JOut.no G4.out
  cases x3
  · obtain ⟨rfl, rfl⟩ := HNO.out HL.out.1
    go_wp2
    go_ret2
    exact JOut.no G4.out
  go_wp2
  go_loopw [61] (fun i wr => ∃ k : Nat, k ≤ R.length ∧ i = .int .i64 k ∧ (∀ j (h : j < R.length), j < k → R[j] ∉ own) ∧ wr = w4) (fun i _ => R.length - (intOf i).toNat)
  case atStart => exact ⟨0, Nat.zero_le _, rfl, (fun _ _ h => absurd h (Nat.not_lt_zero _)), rfl⟩
  case round =>
    obtain ⟨k, hk, rfl, hall, hwr⟩ := hrel
    subst hwr
    have HALL := hid hall
    clear hall
    by_cases hlt : k < R.length
    · obtain ⟨b, off, e5, hb, hc⟩ := O4.out.is.cell (by omega)
      subst e5
      have x0 := hc k hlt
      clear hc
      have H6 := hid (hasJ_any pa ca own R[k] wr hna (HA.out _ G4.out))
      by_cases hx : R[k] ∈ own
      · have hany : (R.any fun x => decide (x ∈ own)) = true := by rw [List.any_eq_true]; exact ⟨R[k], List.getElem_mem hlt, decide_eq_true hx⟩
        obtain ⟨rfl, rfl⟩ := HNO.out (by rw [HL.out.1, hany]; rfl)
        rw [decide_eq_true hx] at H6
        clear hx hany
        generalize R[k] = y at *
        go_wp2_with fail
        refine H6.out.mono ?_
        rintro en w6 ⟨rfl, hw6⟩
        rw [hw6]
        clear hw6
        go_wp2
        go_ret2
        exact JOut.no G4.out
      · have HL2 : Hid (∀ j (h : j < R.length), j < k + 1 → R[j] ∉ own) := fun j hj hjk => by
          by_cases e : j = k
          · subst e; exact hx
          · exact HALL.out j hj (by omega)
        rw [decide_eq_false hx] at H6
        have hr4 := LR.out
        clear hx
        generalize R[k] = y at *
        go_wp2_with fail
        refine H6.out.mono ?_
        rintro en w6 ⟨rfl, hw6⟩
        rw [hw6]
        clear hw6
        go_wp2
        go_roundw
        case rel => exact ⟨k + 1, by omega, by go_num, HL2.out, by trivial⟩
        case measure => simp [intOf]; omega
    · obtain rfl : k = R.length := by omega
      have hany : (R.any fun x => decide (x ∈ own)) = false := by
        rw [List.any_eq_false]
        intro x hx
        obtain ⟨j, hj, rfl⟩ := List.getElem_of_mem hx
        simpa using HALL.out j hj hj
      obtain ⟨rfl, rfl⟩ := HYE.out (by rw [HL.out.1, hany]; rfl)
      clear hany
      go_wp2
      go_ret2
      exact ⟨b4, c4, rfl, O4.out.mono (by omega) (by omega), G4.out, hc4⟩
end Go.Proofs.Ytipeillhafcliaa
