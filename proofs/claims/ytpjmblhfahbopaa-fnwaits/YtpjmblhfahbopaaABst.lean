/- BestSweep: the program and the model. -/
import Derived.Test.YtpjmblhfahbopaaASwI
namespace Go.Proofs.Ytpjmblhfahbopaa
set_option maxRecDepth 100000
open Go Go.ChangeShapes Go.WideShapes Go.ChangeAt Go.RowKit
/-- the better sweep -/
def downB (s : Int) (l : List Int) : Bool := decide ((trav s (sweepL s l false) : Int) < (trav s (sweepL s l true) : Int))
def bestL (s : Int) (l : List Int) : List Int := if downB s l then sweepL s l false else sweepL s l true
theorem bestL_down {s : Int} {l : List Int} (h : downB s l = true) : bestL s l = sweepL s l false := by unfold bestL; rw [h]; rfl
theorem bestL_up {s : Int} {l : List Int} (h : downB s l = false) : bestL s l = sweepL s l true := by unfold bestL; rw [h]; rfl
theorem bestL_len (s : Int) (l : List Int) : (bestL s l).length = l.length := by
  unfold bestL; split <;> exact sweepL_len _ _ _
/-- a list, a number and a truth value, in memory of one's own -/
def BOut (V : List Int) (n : Int) (ok : Bool) (w : World) (e : Ending) (w' : World) : Prop := ∃ b c, e = .returned (.tuple #[.slice b V.length c, .int .i64 n, .bool ok]) ∧ OwnI w.heap.size w'.heap.size b V w' ∧ Below w.heap.size w w'
theorem BOut.no {w w' : World} (g : Below w.heap.size w w') : BOut [] 0 false w (.returned (.tuple #[.slice none 0 0, .int .i64 0, .bool false])) w' := ⟨none, 0, rfl, Or.inl rfl, g⟩
theorem BOut.yes {V : List Int} {n : Int} {w w' : World} {v : Value} (h : AL w.heap.size v V w') (g : Below w.heap.size w w') : BOut V n true w (.returned (.tuple #[v, .int .i64 n, .bool true])) w' := by
  obtain ⟨b, c, rfl, ho, _⟩ := h.own
  exact ⟨b, c, rfl, ho, g⟩
set_option maxHeartbeats 600000 in
theorem sbs_no (s : Int) (a : Option Addr) (cap : Nat) (l : List Int) (w : World) (hn : l.length ≤ 1048576) (hZ : Is w.heap.size a l w) (hg : goodT s l = false) :
    Calls Try.prog 7 #[.int .i64 s, .slice a l.length cap] w (BOut [] 0 false w) := by
  have HG := hid (l8Good_any s a cap l w hn hZ)
  rw [hg] at HG
  go_enter Try.func7, Try.ntmps7
  go_wp2_with fail
  refine HG.out.mono ?_
  rintro e w2 ⟨rfl, hw⟩
  rw [hw]
  clear hw
  go_wp2
  go_ret3
  exact BOut.no (Below.refl _ _)
set_option maxHeartbeats 600000 in
theorem sbs_down (s : Int) (a : Option Addr) (cap : Nat) (l : List Int) (w : World) (hn : l.length ≤ 1048576) (hZ : Is w.heap.size a l w) (hg : goodT s l = true) (hd : downB s l = true) :
    Calls Try.prog 7 #[.int .i64 s, .slice a l.length cap] w (BOut (bestL s l) (trav s (bestL s l) : Int) true w) := by
  have hp := goodT_parts hg
  have h8 := goodA_len hp.2
  have HMU : Hid (∀ x ∈ sweepL s l true, (0 : Int) ≤ x ∧ x ≤ 200) := fun x hx => goodA_mem hp.2 x (sweepL_mem.1 hx)
  have HMD : Hid (∀ x ∈ sweepL s l false, (0 : Int) ≤ x ∧ x ≤ 200) := fun x hx => goodA_mem hp.2 x (sweepL_mem.1 hx)
  have hlu : (sweepL s l true).length ≤ 8 := by rw [sweepL_len]; exact h8
  have hld : (sweepL s l false).length ≤ 8 := by rw [sweepL_len]; exact h8
  have HG := hid (l8Good_any s a cap l w hn hZ)
  rw [hg] at HG
  have HU := hid (sweep_any s a cap l true w (by omega) hZ)
  have HD : Hid (∀ v, Below w.heap.size w v → Calls Try.prog 34 #[.int .i64 s, .slice a l.length cap, .bool false] v fun e w' => ∃ u, e = .returned u ∧ AL v.heap.size u (sweepL s l false) w' ∧ Below v.heap.size v w') := fun v g => sweep_any s a cap l false v (by omega) ((hZ.below g).mono g.size)
  have HS := hid hp.1
  rw [bestL_down hd]
  unfold downB at hd
  clear hg hZ hp
  generalize sweepL s l true = U at *
  generalize sweepL s l false = D at *
  obtain ⟨tU, htU⟩ : ∃ t, trav s U = t := ⟨_, rfl⟩
  obtain ⟨tD, htD⟩ : ∃ t, trav s D = t := ⟨_, rfl⟩
  rw [htU, htD] at hd
  first | rw [htD] | rw [htU]
  have HTU := hid htU
  have HTD := hid htD
  have hdN : decide (tD < tU) = true := by
    have := hd
    simp only [Int.ofNat_lt] at this
    exact this
  clear htU htD
  go_enter Try.func7, Try.ntmps7
  go_wp2_with fail
  refine HG.out.mono ?_
  rintro e w2 ⟨rfl, hw2⟩
  rw [hw2]
  clear hw2
  go_wp2_with fail
  refine HU.out.mono ?_
  rintro e w1 ⟨v1, rfl, o1, b1⟩
  have HO1 := hid o1
  have HB1 := hid b1
  have HD1 := hid (HD.out w1 b1)
  clear o1 b1 HU HG HD
  go_wp2_with fail
  refine HD1.out.mono ?_
  rintro e w2 ⟨v2, rfl, o2, b2⟩
  have HOU := hid (HO1.out.below b2)
  have HOD : Hid (AL w.heap.size v2 D w2) := o2.mono HB1.out.size
  have HB2 : Hid (Below w.heap.size w w2) := HB1.out.trans (b2.mono HB1.out.size)
  clear o2 b2 HD1 HO1 HB1
  obtain ⟨aU, cU, rfl, hU, hcU⟩ := HOU.out.own
  obtain ⟨aD, cD, rfl, hD, hcD⟩ := HOD.out.own
  have TU := hid (l8Travel_any s aU cU U w2 HS.out HMU.out (by omega) hU.is)
  have TD := hid (l8Travel_any s aD cD D w2 HS.out HMD.out (by omega) hD.is)
  rw [HTU.out] at TU
  rw [HTD.out] at TD
  clear hU hD
  go_wp2_with fail
  refine TD.out.mono ?_
  rintro e w3 ⟨rfl, hw⟩
  rw [hw]
  clear hw
  go_wp2_with fail
  refine TU.out.mono ?_
  rintro e w3 ⟨rfl, hw⟩
  rw [hw]
  clear hw
  go_wp2_with fail
  refine TD.out.mono ?_
  rintro e w3 ⟨rfl, hw⟩
  rw [hw]
  clear hw
  go_wp2
  go_ret3
  exact BOut.yes HOD.out HB2.out
set_option maxHeartbeats 600000 in
theorem sbs_up (s : Int) (a : Option Addr) (cap : Nat) (l : List Int) (w : World) (hn : l.length ≤ 1048576) (hZ : Is w.heap.size a l w) (hg : goodT s l = true) (hd : downB s l = false) :
    Calls Try.prog 7 #[.int .i64 s, .slice a l.length cap] w (BOut (bestL s l) (trav s (bestL s l) : Int) true w) := by
  have hp := goodT_parts hg
  have h8 := goodA_len hp.2
  have HMU : Hid (∀ x ∈ sweepL s l true, (0 : Int) ≤ x ∧ x ≤ 200) := fun x hx => goodA_mem hp.2 x (sweepL_mem.1 hx)
  have HMD : Hid (∀ x ∈ sweepL s l false, (0 : Int) ≤ x ∧ x ≤ 200) := fun x hx => goodA_mem hp.2 x (sweepL_mem.1 hx)
  have hlu : (sweepL s l true).length ≤ 8 := by rw [sweepL_len]; exact h8
  have hld : (sweepL s l false).length ≤ 8 := by rw [sweepL_len]; exact h8
  have HG := hid (l8Good_any s a cap l w hn hZ)
  rw [hg] at HG
  have HU := hid (sweep_any s a cap l true w (by omega) hZ)
  have HD : Hid (∀ v, Below w.heap.size w v → Calls Try.prog 34 #[.int .i64 s, .slice a l.length cap, .bool false] v fun e w' => ∃ u, e = .returned u ∧ AL v.heap.size u (sweepL s l false) w' ∧ Below v.heap.size v w') := fun v g => sweep_any s a cap l false v (by omega) ((hZ.below g).mono g.size)
  have HS := hid hp.1
  rw [bestL_up hd]
  unfold downB at hd
  clear hg hZ hp
  generalize sweepL s l true = U at *
  generalize sweepL s l false = D at *
  obtain ⟨tU, htU⟩ : ∃ t, trav s U = t := ⟨_, rfl⟩
  obtain ⟨tD, htD⟩ : ∃ t, trav s D = t := ⟨_, rfl⟩
  rw [htU, htD] at hd
  first | rw [htD] | rw [htU]
  have HTU := hid htU
  have HTD := hid htD
  have hdN : decide (tD < tU) = false := by
    have := hd
    simp only [Int.ofNat_lt] at this
    exact this
  clear htU htD
  go_enter Try.func7, Try.ntmps7
  go_wp2_with fail
  refine HG.out.mono ?_
  rintro e w2 ⟨rfl, hw2⟩
  rw [hw2]
  clear hw2
  go_wp2_with fail
  refine HU.out.mono ?_
  rintro e w1 ⟨v1, rfl, o1, b1⟩
  have HO1 := hid o1
  have HB1 := hid b1
  have HD1 := hid (HD.out w1 b1)
  clear o1 b1 HU HG HD
  go_wp2_with fail
  refine HD1.out.mono ?_
  rintro e w2 ⟨v2, rfl, o2, b2⟩
  have HOU := hid (HO1.out.below b2)
  have HOD : Hid (AL w.heap.size v2 D w2) := o2.mono HB1.out.size
  have HB2 : Hid (Below w.heap.size w w2) := HB1.out.trans (b2.mono HB1.out.size)
  clear o2 b2 HD1 HO1 HB1
  obtain ⟨aU, cU, rfl, hU, hcU⟩ := HOU.out.own
  obtain ⟨aD, cD, rfl, hD, hcD⟩ := HOD.out.own
  have TU := hid (l8Travel_any s aU cU U w2 HS.out HMU.out (by omega) hU.is)
  have TD := hid (l8Travel_any s aD cD D w2 HS.out HMD.out (by omega) hD.is)
  rw [HTU.out] at TU
  rw [HTD.out] at TD
  clear hU hD
  go_wp2_with fail
  refine TD.out.mono ?_
  rintro e w3 ⟨rfl, hw⟩
  rw [hw]
  clear hw
  go_wp2_with fail
  refine TU.out.mono ?_
  rintro e w3 ⟨rfl, hw⟩
  rw [hw]
  clear hw
  go_wp2_with fail
  refine TU.out.mono ?_
  rintro e w3 ⟨rfl, hw⟩
  rw [hw]
  clear hw
  go_wp2
  go_ret3
  exact BOut.yes HOU.out HB2.out
set_option maxHeartbeats 600000 in
theorem ibs_no (s : Int) (a : Option Addr) (cap : Nat) (l : List Int) (w : World) (hn : l.length ≤ 1048576) (hZ : Is w.heap.size a l w) (hg0 : goodT s l = false) :
    Calls Try.prog 6 #[.int .i64 s, .slice a l.length cap] w (BOut [] 0 false w) := by
  have HT := hid (isTrack_any s w)
  have HG := hid (igoodA_any a cap l w hn hZ)
  rcases goodT_cases s l with ⟨ht, hg⟩ | ⟨ht, ha, hg⟩ | ⟨ht, ha, hg⟩
  · rw [ht] at HT
    clear hg0 hg
    go_enter Try.func6, Try.ntmps6
    go_wp2_with fail
    refine HT.out.mono ?_
    rintro e w2 ⟨rfl, hw2⟩
    rw [hw2]
    clear hw2
    go_wp2
    go_ret3
    exact BOut.no (Below.refl _ _)
  · rw [ht] at HT
    rw [ha] at HG
    clear hg0 hg
    go_enter Try.func6, Try.ntmps6
    go_wp2_with fail
    refine HT.out.mono ?_
    rintro e w2 ⟨rfl, hw2⟩
    rw [hw2]
    clear hw2
    go_wp2_with fail
    refine HG.out.mono ?_
    rintro e w2 ⟨rfl, hw2⟩
    rw [hw2]
    clear hw2
    go_wp2
    go_ret3
    exact BOut.no (Below.refl _ _)
  · rw [hg0] at hg; cases hg
set_option maxHeartbeats 600000 in
theorem ibs_down (s : Int) (a : Option Addr) (cap : Nat) (l : List Int) (w : World) (hn : l.length ≤ 1048576) (hZ : Is w.heap.size a l w) (hg : goodT s l = true) (hd : downB s l = true) :
    Calls Try.prog 6 #[.int .i64 s, .slice a l.length cap] w (BOut (bestL s l) (trav s (bestL s l) : Int) true w) := by
  have hp := goodT_parts hg
  have h8 := goodA_len hp.2
  have HMU : Hid (∀ x ∈ sweepL s l true, (0 : Int) ≤ x ∧ x ≤ 200) := fun x hx => goodA_mem hp.2 x (sweepL_mem.1 hx)
  have HMD : Hid (∀ x ∈ sweepL s l false, (0 : Int) ≤ x ∧ x ≤ 200) := fun x hx => goodA_mem hp.2 x (sweepL_mem.1 hx)
  have hlu : (sweepL s l true).length ≤ 8 := by rw [sweepL_len]; exact h8
  have hld : (sweepL s l false).length ≤ 8 := by rw [sweepL_len]; exact h8
  have HT := hid (isTrack_any s w)
  have HG := hid (igoodA_any a cap l w hn hZ)
  rw [trkB_iff.2 hp.1] at HT
  rw [hp.2] at HG
  have HU := hid (sweepUp_any s a cap l w (by omega) hZ)
  have HD : Hid (∀ v, Below w.heap.size w v → Calls Try.prog 30 #[.int .i64 s, .slice a l.length cap] v fun e w' => ∃ u, e = .returned u ∧ AL v.heap.size u (sweepL s l false) w' ∧ Below v.heap.size v w') := fun v g => sweepDown_any s a cap l v (by omega) ((hZ.below g).mono g.size)
  have HS := hid hp.1
  rw [bestL_down hd]
  unfold downB at hd
  clear hg hZ hp
  generalize sweepL s l true = U at *
  generalize sweepL s l false = D at *
  obtain ⟨tU, htU⟩ : ∃ t, trav s U = t := ⟨_, rfl⟩
  obtain ⟨tD, htD⟩ : ∃ t, trav s D = t := ⟨_, rfl⟩
  rw [htU, htD] at hd
  first | rw [htD] | rw [htU]
  have HTU := hid htU
  have HTD := hid htD
  have hdN : decide (tD < tU) = true := by
    have := hd
    simp only [Int.ofNat_lt] at this
    exact this
  clear htU htD
  go_enter Try.func6, Try.ntmps6
  go_wp2_with fail
  refine HT.out.mono ?_
  rintro e w2 ⟨rfl, hw2⟩
  rw [hw2]
  clear hw2
  go_wp2_with fail
  refine HG.out.mono ?_
  rintro e w2 ⟨rfl, hw2⟩
  rw [hw2]
  clear hw2
  go_wp2_with fail
  refine HU.out.mono ?_
  rintro e w1 ⟨v1, rfl, o1, b1⟩
  have HO1 := hid o1
  have HB1 := hid b1
  have HD1 := hid (HD.out w1 b1)
  clear o1 b1 HU HG HD HT
  go_wp2_with fail
  refine HD1.out.mono ?_
  rintro e w2 ⟨v2, rfl, o2, b2⟩
  have HOU := hid (HO1.out.below b2)
  have HOD : Hid (AL w.heap.size v2 D w2) := o2.mono HB1.out.size
  have HB2 : Hid (Below w.heap.size w w2) := HB1.out.trans (b2.mono HB1.out.size)
  clear o2 b2 HD1 HO1 HB1
  obtain ⟨aU, cU, rfl, hU, hcU⟩ := HOU.out.own
  obtain ⟨aD, cD, rfl, hD, hcD⟩ := HOD.out.own
  have u1 := ups_le U s HS.out HMU.out
  have u2 := dns_le U s HS.out HMU.out
  have u3 := ups_le D s HS.out HMD.out
  have u4 := dns_le D s HS.out HMD.out
  have AU := hid (along_any s aU cU U w2 HS.out HMU.out (by omega) hU.is)
  have AD := hid (along_any s aD cD D w2 HS.out HMD.out (by omega) hD.is)
  have SU := hid (steps_any (ups s U) (dns s U) w2 (by omega) (by omega))
  have SD := hid (steps_any (ups s D) (dns s D) w2 (by omega) (by omega))
  have eU : ups s U + dns s U = trav s U := rfl
  have eD : ups s D + dns s D = trav s D := rfl
  rw [eU, HTU.out] at SU
  rw [eD, HTD.out] at SD
  clear hU hD u1 u2 u3 u4 eU eD
  generalize fl (ups s U) = f1 at *
  generalize fl (dns s U) = f2 at *
  generalize fl (ups s D) = f3 at *
  generalize fl (dns s D) = f4 at *
  go_wp2_with fail
  refine AU.out.mono ?_
  rintro e w3 ⟨rfl, hw⟩
  rw [hw]
  clear hw AU
  go_wp2_with fail
  refine SU.out.mono ?_
  rintro e w3 ⟨rfl, hw⟩
  rw [hw]
  clear hw SU
  go_wp2_with fail
  refine AD.out.mono ?_
  rintro e w3 ⟨rfl, hw⟩
  rw [hw]
  clear hw AD
  go_wp2_with fail
  refine SD.out.mono ?_
  rintro e w3 ⟨rfl, hw⟩
  rw [hw]
  clear hw SD
  go_wp2
  go_ret3
  exact BOut.yes HOD.out HB2.out
set_option maxHeartbeats 600000 in
theorem ibs_up (s : Int) (a : Option Addr) (cap : Nat) (l : List Int) (w : World) (hn : l.length ≤ 1048576) (hZ : Is w.heap.size a l w) (hg : goodT s l = true) (hd : downB s l = false) :
    Calls Try.prog 6 #[.int .i64 s, .slice a l.length cap] w (BOut (bestL s l) (trav s (bestL s l) : Int) true w) := by
  have hp := goodT_parts hg
  have h8 := goodA_len hp.2
  have HMU : Hid (∀ x ∈ sweepL s l true, (0 : Int) ≤ x ∧ x ≤ 200) := fun x hx => goodA_mem hp.2 x (sweepL_mem.1 hx)
  have HMD : Hid (∀ x ∈ sweepL s l false, (0 : Int) ≤ x ∧ x ≤ 200) := fun x hx => goodA_mem hp.2 x (sweepL_mem.1 hx)
  have hlu : (sweepL s l true).length ≤ 8 := by rw [sweepL_len]; exact h8
  have hld : (sweepL s l false).length ≤ 8 := by rw [sweepL_len]; exact h8
  have HT := hid (isTrack_any s w)
  have HG := hid (igoodA_any a cap l w hn hZ)
  rw [trkB_iff.2 hp.1] at HT
  rw [hp.2] at HG
  have HU := hid (sweepUp_any s a cap l w (by omega) hZ)
  have HD : Hid (∀ v, Below w.heap.size w v → Calls Try.prog 30 #[.int .i64 s, .slice a l.length cap] v fun e w' => ∃ u, e = .returned u ∧ AL v.heap.size u (sweepL s l false) w' ∧ Below v.heap.size v w') := fun v g => sweepDown_any s a cap l v (by omega) ((hZ.below g).mono g.size)
  have HS := hid hp.1
  rw [bestL_up hd]
  unfold downB at hd
  clear hg hZ hp
  generalize sweepL s l true = U at *
  generalize sweepL s l false = D at *
  obtain ⟨tU, htU⟩ : ∃ t, trav s U = t := ⟨_, rfl⟩
  obtain ⟨tD, htD⟩ : ∃ t, trav s D = t := ⟨_, rfl⟩
  rw [htU, htD] at hd
  first | rw [htD] | rw [htU]
  have HTU := hid htU
  have HTD := hid htD
  have hdN : decide (tD < tU) = false := by
    have := hd
    simp only [Int.ofNat_lt] at this
    exact this
  clear htU htD
  go_enter Try.func6, Try.ntmps6
  go_wp2_with fail
  refine HT.out.mono ?_
  rintro e w2 ⟨rfl, hw2⟩
  rw [hw2]
  clear hw2
  go_wp2_with fail
  refine HG.out.mono ?_
  rintro e w2 ⟨rfl, hw2⟩
  rw [hw2]
  clear hw2
  go_wp2_with fail
  refine HU.out.mono ?_
  rintro e w1 ⟨v1, rfl, o1, b1⟩
  have HO1 := hid o1
  have HB1 := hid b1
  have HD1 := hid (HD.out w1 b1)
  clear o1 b1 HU HG HD HT
  go_wp2_with fail
  refine HD1.out.mono ?_
  rintro e w2 ⟨v2, rfl, o2, b2⟩
  have HOU := hid (HO1.out.below b2)
  have HOD : Hid (AL w.heap.size v2 D w2) := o2.mono HB1.out.size
  have HB2 : Hid (Below w.heap.size w w2) := HB1.out.trans (b2.mono HB1.out.size)
  clear o2 b2 HD1 HO1 HB1
  obtain ⟨aU, cU, rfl, hU, hcU⟩ := HOU.out.own
  obtain ⟨aD, cD, rfl, hD, hcD⟩ := HOD.out.own
  have u1 := ups_le U s HS.out HMU.out
  have u2 := dns_le U s HS.out HMU.out
  have u3 := ups_le D s HS.out HMD.out
  have u4 := dns_le D s HS.out HMD.out
  have AU := hid (along_any s aU cU U w2 HS.out HMU.out (by omega) hU.is)
  have AD := hid (along_any s aD cD D w2 HS.out HMD.out (by omega) hD.is)
  have SU := hid (steps_any (ups s U) (dns s U) w2 (by omega) (by omega))
  have SD := hid (steps_any (ups s D) (dns s D) w2 (by omega) (by omega))
  have eU : ups s U + dns s U = trav s U := rfl
  have eD : ups s D + dns s D = trav s D := rfl
  rw [eU, HTU.out] at SU
  rw [eD, HTD.out] at SD
  clear hU hD u1 u2 u3 u4 eU eD
  generalize fl (ups s U) = f1 at *
  generalize fl (dns s U) = f2 at *
  generalize fl (ups s D) = f3 at *
  generalize fl (dns s D) = f4 at *
  go_wp2_with fail
  refine AU.out.mono ?_
  rintro e w3 ⟨rfl, hw⟩
  rw [hw]
  clear hw AU
  go_wp2_with fail
  refine SU.out.mono ?_
  rintro e w3 ⟨rfl, hw⟩
  rw [hw]
  clear hw SU
  go_wp2_with fail
  refine AD.out.mono ?_
  rintro e w3 ⟨rfl, hw⟩
  rw [hw]
  clear hw AD
  go_wp2_with fail
  refine SD.out.mono ?_
  rintro e w3 ⟨rfl, hw⟩
  rw [hw]
  clear hw SD
  go_wp2
  go_ret3
  exact BOut.yes HOU.out HB2.out
theorem sbs_yes (s : Int) (a : Option Addr) (cap : Nat) (l : List Int) (w : World) (hn : l.length ≤ 1048576) (hZ : Is w.heap.size a l w) (hg : goodT s l = true) :
    Calls Try.prog 7 #[.int .i64 s, .slice a l.length cap] w (BOut (bestL s l) (trav s (bestL s l) : Int) true w) := by
  cases hd : downB s l
  · exact sbs_up s a cap l w hn hZ hg hd
  · exact sbs_down s a cap l w hn hZ hg hd
theorem ibs_yes (s : Int) (a : Option Addr) (cap : Nat) (l : List Int) (w : World) (hn : l.length ≤ 1048576) (hZ : Is w.heap.size a l w) (hg : goodT s l = true) :
    Calls Try.prog 6 #[.int .i64 s, .slice a l.length cap] w (BOut (bestL s l) (trav s (bestL s l) : Int) true w) := by
  cases hd : downB s l
  · exact ibs_up s a cap l w hn hZ hg hd
  · exact ibs_down s a cap l w hn hZ hg hd
end Go.Proofs.Ytpjmblhfahbopaa
