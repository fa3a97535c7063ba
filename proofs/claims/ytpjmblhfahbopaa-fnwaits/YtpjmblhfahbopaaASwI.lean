/- SweepOrder: the program and the model. -/
import Derived.Test.YtpjmblhfahbopaaAPro
import Derived.Test.YtpjmblhfahbopaaATrav
namespace Go.Proofs.Ytpjmblhfahbopaa
set_option maxRecDepth 100000
open Go Go.ChangeShapes Go.WideShapes Go.ChangeAt Go.RowKit
theorem sweep_up_eq (s : Int) (l : List Int) : sweepL s l true = sortN (l.filter fun x => decide (s ≤ x)) ++ (sortN (l.filter fun x => !decide (s ≤ x))).reverse := by
  have e1 : (fun n => !lowB s true n) = fun x => decide (s ≤ x) := by funext n; unfold lowB; by_cases h : n < s <;> simp [h] <;> omega
  have e2 : lowB s true = fun x => !decide (s ≤ x) := by funext n; unfold lowB; by_cases h : n < s <;> simp [h] <;> omega
  show (sortN l).filter (fun n => !lowB s true n) ++ ((sortN l).filter (lowB s true)).reverse = _
  rw [e1, e2, sortN_filter, sortN_filter]
theorem sweep_down_eq (s : Int) (l : List Int) : sweepL s l false = (sortN (l.filter fun x => decide (x ≤ s))).reverse ++ sortN (l.filter fun x => !decide (x ≤ s)) := by
  have e1 : (fun n => !lowB s false n) = fun x => !decide (x ≤ s) := by funext n; unfold lowB; by_cases h : n < s <;> by_cases g : n = s <;> simp [h, g] <;> omega
  have e2 : lowB s false = fun x => decide (x ≤ s) := by funext n; unfold lowB; by_cases h : n < s <;> by_cases g : n = s <;> simp [h, g] <;> omega
  show ((sortN l).filter (lowB s false)).reverse ++ (sortN l).filter (fun n => !lowB s false n) = _
  rw [e1, e2, sortN_filter, sortN_filter]
set_option maxHeartbeats 2000000 in
theorem sweepUp_any (s : Int) (a : Option Addr) (cap : Nat) (l : List Int) (w : World) (hn : l.length ≤ 4000) (hZ : Is w.heap.size a l w) :
    Calls Try.prog 29 #[.int .i64 s, .slice a l.length cap] w fun e w' => ∃ v, e = .returned v ∧ AL w.heap.size v (sweepL s l true) w' ∧ Below w.heap.size w w' := by
  have hb := boxB w (.cells #[.int .i64 s] 3)
  have HP := hid (parted_up1 s w.heap.size a cap l (w.alloc (.cells #[.int .i64 s] 3)) hn ((hZ.below hb).mono hb.size) (by simp) (box_cell (heap_last _ _) 0))
  have hl1 : (l.filter fun x => decide (s ≤ x)).length ≤ l.length := List.length_filter_le _ _
  have hl2 : (l.filter fun x => !decide (s ≤ x)).length ≤ l.length := List.length_filter_le _ _
  have HE : Hid (sweepL s l true = sortN (l.filter fun x => decide (s ≤ x)) ++ (sortN (l.filter fun x => !decide (s ≤ x))).reverse) := sweep_up_eq s l
  have HB := hid hb
  clear hb hZ
  generalize (l.filter fun x => decide (s ≤ x)) = P at *
  generalize (l.filter fun x => !decide (s ≤ x)) = Q at *
  go_enter Try.func29, Try.ntmps29
  go_wp2_with fail
  refine HP.out.mono ?_
  rintro e w1 ⟨u, v, rfl, o1, b1⟩
  obtain ⟨aP, cP, rfl, hP, hcP⟩ := o1.left.own
  obtain ⟨aQ, cQ, rfl, hQ, hcQ⟩ := o1.right.own
  have HB1 : Hid (Below w.heap.size w w1) := HB.out.trans (b1.mono (by simp))
  have HQ := hid hQ.is
  have HR1 := hid (rising_any aP cP P w1 (by omega) hP.is)
  clear o1 b1 hP hQ HP HB
  go_wp2_with fail
  refine HR1.out.mono ?_
  rintro e w2 ⟨v2, rfl, o2, b2⟩
  have HO2 := hid o2
  have HB2 := hid b2
  have HR2 := hid (falling_any aQ cQ Q w2 (by omega) ((HQ.out.below b2).mono b2.size))
  clear o2 b2 HR1 HQ
  go_wp2_with fail
  refine HR2.out.mono ?_
  rintro e w3 ⟨v3, rfl, o3, b3⟩
  obtain ⟨a2, c2, rfl, ho2, hc2⟩ := (HO2.out.below b3).own
  obtain ⟨a3, c3, rfl, ho3, hc3⟩ := o3.own
  have hS2 : (sortN P).length ≤ 4000 := by first | (rw [sortN_len]; omega) | (rw [List.length_reverse, sortN_len]; omega)
  have hS3 : ((sortN Q).reverse).length ≤ 4000 := by first | (rw [sortN_len]; omega) | (rw [List.length_reverse, sortN_len]; omega)
  have hbx := boxB w3 (.cells #[.slice a2 (sortN P).length c2, .slice a3 ((sortN Q).reverse).length c3] 23)
  have HC := hid (concat_two w3.heap.size a2 a3 c2 c3 (sortN P) ((sortN Q).reverse) (w3.alloc (.cells #[.slice a2 (sortN P).length c2, .slice a3 ((sortN Q).reverse).length c3] 23)) hS2 hS3 (heap_last _ _) ((ho2.is.below hbx).mono hbx.size) ((ho3.is.below hbx).mono hbx.size))
  have hsz1 := HB1.out.size
  have hsz2 := HB2.out.size
  have hsz3 := b3.size
  have HB3 : Hid (Below w.heap.size w (w3.alloc (.cells #[.slice a2 (sortN P).length c2, .slice a3 ((sortN Q).reverse).length c3] 23))) := HB1.out.trans (((HB2.out.trans (b3.mono hsz2)).mono hsz1).trans (hbx.mono (by omega)))
  clear o3 b3 hbx HO2 ho2 ho3 HR2 HB1 HB2
  generalize (sortN P) = XX at *
  generalize ((sortN Q).reverse) = YY at *
  go_wp2_with fail
  refine HC.out.mono ?_
  rintro e w4 ⟨v4, rfl, o4, b4⟩
  have HO4 : Hid (AL w.heap.size v4 (sweepL s l true) w4) := by
    show AL w.heap.size v4 (sweepL s l true) w4
    rw [HE.out]
    exact o4.mono HB3.out.size
  have HB4 : Hid (Below w.heap.size w w4) := HB3.out.trans (b4.mono HB3.out.size)
  clear o4 b4 HC HE HB3
  go_wp2
  go_ret
  exact ⟨v4, rfl, HO4.out, HB4.out⟩
set_option maxHeartbeats 2000000 in
theorem sweepDown_any (s : Int) (a : Option Addr) (cap : Nat) (l : List Int) (w : World) (hn : l.length ≤ 4000) (hZ : Is w.heap.size a l w) :
    Calls Try.prog 30 #[.int .i64 s, .slice a l.length cap] w fun e w' => ∃ v, e = .returned v ∧ AL w.heap.size v (sweepL s l false) w' ∧ Below w.heap.size w w' := by
  have hb := boxB w (.cells #[.int .i64 s] 3)
  have HP := hid (parted_down1 s w.heap.size a cap l (w.alloc (.cells #[.int .i64 s] 3)) hn ((hZ.below hb).mono hb.size) (by simp) (box_cell (heap_last _ _) 0))
  have hl1 : (l.filter fun x => decide (x ≤ s)).length ≤ l.length := List.length_filter_le _ _
  have hl2 : (l.filter fun x => !decide (x ≤ s)).length ≤ l.length := List.length_filter_le _ _
  have HE : Hid (sweepL s l false = (sortN (l.filter fun x => decide (x ≤ s))).reverse ++ sortN (l.filter fun x => !decide (x ≤ s))) := sweep_down_eq s l
  have HB := hid hb
  clear hb hZ
  generalize (l.filter fun x => decide (x ≤ s)) = P at *
  generalize (l.filter fun x => !decide (x ≤ s)) = Q at *
  go_enter Try.func30, Try.ntmps30
  go_wp2_with fail
  refine HP.out.mono ?_
  rintro e w1 ⟨u, v, rfl, o1, b1⟩
  obtain ⟨aP, cP, rfl, hP, hcP⟩ := o1.left.own
  obtain ⟨aQ, cQ, rfl, hQ, hcQ⟩ := o1.right.own
  have HB1 : Hid (Below w.heap.size w w1) := HB.out.trans (b1.mono (by simp))
  have HQ := hid hQ.is
  have HR1 := hid (falling_any aP cP P w1 (by omega) hP.is)
  clear o1 b1 hP hQ HP HB
  go_wp2_with fail
  refine HR1.out.mono ?_
  rintro e w2 ⟨v2, rfl, o2, b2⟩
  have HO2 := hid o2
  have HB2 := hid b2
  have HR2 := hid (rising_any aQ cQ Q w2 (by omega) ((HQ.out.below b2).mono b2.size))
  clear o2 b2 HR1 HQ
  go_wp2_with fail
  refine HR2.out.mono ?_
  rintro e w3 ⟨v3, rfl, o3, b3⟩
  obtain ⟨a2, c2, rfl, ho2, hc2⟩ := (HO2.out.below b3).own
  obtain ⟨a3, c3, rfl, ho3, hc3⟩ := o3.own
  have hS2 : ((sortN P).reverse).length ≤ 4000 := by first | (rw [sortN_len]; omega) | (rw [List.length_reverse, sortN_len]; omega)
  have hS3 : (sortN Q).length ≤ 4000 := by first | (rw [sortN_len]; omega) | (rw [List.length_reverse, sortN_len]; omega)
  have hbx := boxB w3 (.cells #[.slice a2 ((sortN P).reverse).length c2, .slice a3 (sortN Q).length c3] 23)
  have HC := hid (concat_two w3.heap.size a2 a3 c2 c3 ((sortN P).reverse) (sortN Q) (w3.alloc (.cells #[.slice a2 ((sortN P).reverse).length c2, .slice a3 (sortN Q).length c3] 23)) hS2 hS3 (heap_last _ _) ((ho2.is.below hbx).mono hbx.size) ((ho3.is.below hbx).mono hbx.size))
  have hsz1 := HB1.out.size
  have hsz2 := HB2.out.size
  have hsz3 := b3.size
  have HB3 : Hid (Below w.heap.size w (w3.alloc (.cells #[.slice a2 ((sortN P).reverse).length c2, .slice a3 (sortN Q).length c3] 23))) := HB1.out.trans (((HB2.out.trans (b3.mono hsz2)).mono hsz1).trans (hbx.mono (by omega)))
  clear o3 b3 hbx HO2 ho2 ho3 HR2 HB1 HB2
  generalize ((sortN P).reverse) = XX at *
  generalize (sortN Q) = YY at *
  go_wp2_with fail
  refine HC.out.mono ?_
  rintro e w4 ⟨v4, rfl, o4, b4⟩
  have HO4 : Hid (AL w.heap.size v4 (sweepL s l false) w4) := by
    show AL w.heap.size v4 (sweepL s l false) w4
    rw [HE.out]
    exact o4.mono HB3.out.size
  have HB4 : Hid (Below w.heap.size w w4) := HB3.out.trans (b4.mono HB3.out.size)
  clear o4 b4 HC HE HB3
  go_wp2
  go_ret
  exact ⟨v4, rfl, HO4.out, HB4.out⟩
set_option maxHeartbeats 1000000 in
theorem sso_no (s : Int) (a : Option Addr) (cap : Nat) (l : List Int) (up : Bool) (w : World) (hn : l.length ≤ 1048576) (hZ : Is w.heap.size a l w) (hg : goodT s l = false) :
    Calls Try.prog 20 #[.int .i64 s, .slice a l.length cap, .bool up] w (LOut [] false w) := by
  have HG := hid (l8Good_any s a cap l w hn hZ)
  rw [hg] at HG
  go_enter Try.func20, Try.ntmps20
  go_wp2_with fail
  refine HG.out.mono ?_
  rintro e w2 ⟨rfl, hw2⟩
  rw [hw2]
  clear hw2
  go_wp2
  go_ret2
  exact LOut.no (Below.refl _ _)
set_option maxHeartbeats 1000000 in
theorem iso_no (s : Int) (a : Option Addr) (cap : Nat) (l : List Int) (up : Bool) (w : World) (hn : l.length ≤ 1048576) (hZ : Is w.heap.size a l w) (hg0 : goodT s l = false) :
    Calls Try.prog 19 #[.int .i64 s, .slice a l.length cap, .bool up] w (LOut [] false w) := by
  have HT := hid (isTrack_any s w)
  have HG := hid (igoodA_any a cap l w hn hZ)
  rcases goodT_cases s l with ⟨ht, hg⟩ | ⟨ht, ha, hg⟩ | ⟨ht, ha, hg⟩
  · rw [ht] at HT
    clear hg0 hg
    go_enter Try.func19, Try.ntmps19
    go_wp2_with fail
    refine HT.out.mono ?_
    rintro e w2 ⟨rfl, hw2⟩
    rw [hw2]
    clear hw2
    go_wp2
    go_ret2
    exact LOut.no (Below.refl _ _)
  · rw [ht] at HT
    rw [ha] at HG
    clear hg0 hg
    go_enter Try.func19, Try.ntmps19
    go_wp2_with fail
    refine HT.out.mono ?_
    rintro e w2 ⟨rfl, hw2⟩
    rw [hw2]
    clear hw2
    go_wp2_with fail
    refine HG.out.mono ?_
    rintro e w2 ⟨rfl, hw2⟩
    rw [hw2]
    clear hw2
    go_wp2
    go_ret2
    exact LOut.no (Below.refl _ _)
  · rw [hg0] at hg; cases hg
set_option maxHeartbeats 1000000 in
theorem sso_yes (s : Int) (a : Option Addr) (cap : Nat) (l : List Int) (up : Bool) (w : World) (hn : l.length ≤ 1048576) (hZ : Is w.heap.size a l w) (hg : goodT s l = true) :
    Calls Try.prog 20 #[.int .i64 s, .slice a l.length cap, .bool up] w (LOut (sweepL s l up) true w) := by
  have HG := hid (l8Good_any s a cap l w hn hZ)
  rw [hg] at HG
  have HS := hid (sweep_any s a cap l up w (by have := goodA_len (goodT_parts hg).2; omega) hZ)
  clear hg hZ
  go_enter Try.func20, Try.ntmps20
  go_wp2_with fail
  refine HG.out.mono ?_
  rintro e w2 ⟨rfl, hw2⟩
  rw [hw2]
  clear hw2
  go_wp2_with fail
  refine HS.out.mono ?_
  rintro e w3 ⟨v, rfl, o3, b3⟩
  have HO := hid o3
  have HB := hid b3
  clear o3 b3 HS HG
  go_wp2
  go_ret2
  exact LOut.yes HO.out HB.out
set_option maxHeartbeats 1000000 in
theorem iso_yes (s : Int) (a : Option Addr) (cap : Nat) (l : List Int) (up : Bool) (w : World) (hn : l.length ≤ 1048576) (hZ : Is w.heap.size a l w) (hg : goodT s l = true) :
    Calls Try.prog 19 #[.int .i64 s, .slice a l.length cap, .bool up] w (LOut (sweepL s l up) true w) := by
  have hp := goodT_parts hg
  have h8 := goodA_len hp.2
  have HT := hid (isTrack_any s w)
  have HG := hid (igoodA_any a cap l w hn hZ)
  rw [trkB_iff.2 hp.1] at HT
  rw [hp.2] at HG
  have HU := hid (sweepUp_any s a cap l w (by omega) hZ)
  have HD := hid (sweepDown_any s a cap l w (by omega) hZ)
  clear hg hZ hp
  cases up
  · go_enter Try.func19, Try.ntmps19
    go_wp2_with fail
    refine HT.out.mono ?_
    rintro e w2 ⟨rfl, hw2⟩
    rw [hw2]
    clear hw2
    go_wp2_with fail
    refine HG.out.mono ?_
    rintro e w2 ⟨rfl, hw2⟩
    rw [hw2]
    clear hw2
    go_wp2_with fail
    refine HD.out.mono ?_
    rintro e w3 ⟨v, rfl, o3, b3⟩
    have HO := hid o3
    have HB := hid b3
    clear o3 b3 HU HD HG HT
    go_wp2
    go_ret2
    exact LOut.yes HO.out HB.out
  · go_enter Try.func19, Try.ntmps19
    go_wp2_with fail
    refine HT.out.mono ?_
    rintro e w2 ⟨rfl, hw2⟩
    rw [hw2]
    clear hw2
    go_wp2_with fail
    refine HG.out.mono ?_
    rintro e w2 ⟨rfl, hw2⟩
    rw [hw2]
    clear hw2
    go_wp2_with fail
    refine HU.out.mono ?_
    rintro e w3 ⟨v, rfl, o3, b3⟩
    have HO := hid o3
    have HB := hid b3
    clear o3 b3 HU HD HG HT
    go_wp2
    go_ret2
    exact LOut.yes HO.out HB.out
end Go.Proofs.Ytpjmblhfahbopaa
