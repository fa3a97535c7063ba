/- RoundOrder: the program and the model. -/
import Derived.Test.YtpjmblhfahbopaaAPro
import Derived.Test.YtpjmblhfahbopaaAGood
import Derived.Test.YtpjmblhfahbopaaATrav
namespace Go.Proofs.Ytpjmblhfahbopaa
set_option maxRecDepth 100000
open Go Go.ChangeShapes Go.WideShapes Go.ChangeAt Go.RowKit
theorem round_eq (s : Int) (l : List Int) : roundL s l = sortN (l.filter fun x => decide (s ≤ x)) ++ sortN (l.filter fun x => !decide (s ≤ x)) := by
  have e1 : (fun n => !decide (n < s)) = fun x => decide (s ≤ x) := by funext n; by_cases h : n < s <;> simp [h] <;> omega
  have e2 : (fun n => decide (n < s)) = fun x => !decide (s ≤ x) := by funext n; by_cases h : n < s <;> simp [h] <;> omega
  unfold roundL
  rw [e1, e2, sortN_filter, sortN_filter]
set_option maxHeartbeats 1000000 in
theorem sro_no (s : Int) (a : Option Addr) (cap : Nat) (l : List Int) (w : World) (hn : l.length ≤ 1048576) (hZ : Is w.heap.size a l w) (hg : goodT s l = false) :
    Calls Try.prog 24 #[.int .i64 s, .slice a l.length cap] w (LOut [] false w) := by
  have HG := hid (l8Good_any s a cap l w hn hZ)
  rw [hg] at HG
  go_enter Try.func24, Try.ntmps24
  go_wp2_with fail
  refine HG.out.mono ?_
  rintro e w2 ⟨rfl, hw2⟩
  rw [hw2]
  clear hw2
  go_wp2
  go_ret2
  exact LOut.no (Below.refl _ _)
set_option maxHeartbeats 4000000 in
theorem sro_yes (s : Int) (a : Option Addr) (cap : Nat) (l : List Int) (w : World) (hn : l.length ≤ 1048576) (hZ : Is w.heap.size a l w) (hg : goodT s l = true) :
    Calls Try.prog 24 #[.int .i64 s, .slice a l.length cap] w (LOut (roundL s l) true w) := by
  have HG := hid (l8Good_any s a cap l w hn hZ)
  rw [hg] at HG
  have h8 := goodA_len (goodT_parts hg).2
  have HS := hid (sorted_any a cap l w (by omega) hZ)
  have hlT := sortN_len l
  have HE : Hid (roundL s l = (sortN l).filter (fun n => !decide (n < s)) ++ (sortN l).filter (fun n => decide (n < s))) := rfl
  clear hZ hg
  generalize sortN l = T at *
  have hT : T.length ≤ 4000 := by omega
  have HT := hid hlT
  clear hlT
  go_enter Try.func24, Try.ntmps24
  go_wp2_with fail
  refine HG.out.mono ?_
  rintro e w2 ⟨rfl, hw2⟩
  rw [hw2]
  clear hw2
  go_wp2_with fail
  refine HS.out.mono ?_
  rintro e w1 ⟨vT, rfl, oT, b1⟩
  obtain ⟨aT, cT, rfl, hoT, hcT⟩ := oT.own
  have HI := hid hoT.is
  have HB1 := hid b1
  clear hoT oT b1 HS HG
  go_wp2_with fail
  go_loopw [6, 7, 17] (fun o p i wr => ∃ (k : Nat) (o1 p1 : Value), k ≤ T.length ∧ i = .int .i64 k ∧ o = o1 ∧ p = p1 ∧ AL2 w1.heap.size o1 ((T.take k).filter fun n => decide (n < s)) p1 ((T.take k).filter fun n => !decide (n < s)) wr ∧ Below w1.heap.size w1 wr) (fun _ _ i _ => T.length - (intOf i).toNat)
  case atStart => exact ⟨0, _, _, Nat.zero_le _, rfl, rfl, rfl, AL2.nil _ _, Below.refl _ _⟩
  case round =>
    obtain ⟨k, _, _, hk, rfl, rfl, rfl, hown, hbel⟩ := hrel
    have HOWN := hid hown
    have HBEL := hid hbel
    have hszr := hbel.size
    clear hown hbel
    by_cases hlt : k < T.length
    · obtain ⟨b, off, rfl, hb, hc⟩ := HI.out.cell (by omega)
      have x0 := (HBEL.out.cell (p := ⟨b, off + k, none⟩) hb).trans (hc k hlt)
      have HY := hid (filter_snoc_yes (fun n => decide (n < s)) T k hlt)
      have HN := hid (filter_snoc_no (fun n => decide (n < s)) T k hlt)
      have HY2 := hid (filter_snoc_yes (fun n => !decide (n < s)) T k hlt)
      have HN2 := hid (filter_snoc_no (fun n => !decide (n < s)) T k hlt)
      have hl1 := filter_take_len (fun n => decide (n < s)) T k
      have hl2 := filter_take_len (fun n => !decide (n < s)) T k
      clear hc
      generalize T[k] = x at *
      by_cases h1 : x < s
      · have d1 : decide (x < s) = true := decide_eq_true h1
        have e1 := HY.out d1
        have e2 := HN2.out (by simp only [d1]; rfl)
        obtain ⟨v', w', r1, o1, g1⟩ := HOWN.out.push hszr x (by omega)
        rw [← e1, ← e2] at o1
        have HO := hid o1
        have HB' : Hid (Below w1.heap.size w1 w') := HBEL.out.trans g1
        clear o1 g1 HOWN HY HN HY2 HN2 e1 e2 hl1 hl2
        go_wp2_with (at_builtin; refine wpList_append_run rfl (.tmp 24) (.tmp 26) 23 rfl _ _ rfl rfl _ _ r1 ?_)
        go_roundw
        case rel => exact ⟨k + 1, _, _, by omega, by go_num, rfl, rfl, HO.out, HB'.out⟩
        case measure => simp [intOf]; omega
      · have d1 : decide (x < s) = false := decide_eq_false h1
        have e1 := HN.out d1
        have e2 := HY2.out (by simp only [d1]; rfl)
        obtain ⟨v', w', r1, o1, g1⟩ := HOWN.out.swap.push hszr x (by omega)
        rw [← e1, ← e2] at o1
        have HO := hid o1.swap
        have HB' : Hid (Below w1.heap.size w1 w') := HBEL.out.trans g1
        clear o1 g1 HOWN HY HN HY2 HN2 e1 e2 hl1 hl2
        go_wp2_with (at_builtin; refine wpList_append_run rfl (.tmp 28) (.tmp 30) 23 rfl _ _ rfl rfl _ _ r1 ?_)
        go_roundw
        case rel => exact ⟨k + 1, _, _, by omega, by go_num, rfl, rfl, HO.out, HB'.out⟩
        case measure => simp [intOf]; omega
    · obtain rfl : k = T.length := by omega
      rw [List.take_length] at HOWN
      have hl1 : (T.filter (fun n => decide (n < s))).length ≤ T.length := List.length_filter_le _ _
      have hl2 : (T.filter (fun n => !decide (n < s))).length ≤ T.length := List.length_filter_le _ _
      generalize T.filter (fun n => decide (n < s)) = LL at *
      generalize T.filter (fun n => !decide (n < s)) = HH at *
      obtain ⟨aL, cL, rfl, oL, hcL⟩ := HOWN.out.left.own
      obtain ⟨aH, cH, rfl, oH, hcH⟩ := HOWN.out.right.own
      have hsw := HB1.out.size
      have hW1 := boxB wr (.cells #[] 3)
      obtain ⟨v1, w2, r1, o1, g1, -⟩ := (AL.lit wr).app hW1.size aH cH HH ((oH.is.below hW1).mono hW1.size) (by simp; omega)
      rw [List.nil_append] at o1
      have hg1 : Below wr.heap.size wr w2 := hW1.trans g1
      obtain ⟨v4, w4, r4, o4, g4, -⟩ := o1.app hg1.size aL cL LL ((oL.is.below hg1).mono hg1.size) (by omega)
      have HO4 : Hid (AL w.heap.size v4 (roundL s l) w4) := by
        show AL w.heap.size v4 (roundL s l) w4
        rw [HE.out]
        exact o4.mono (Nat.le_trans hsw hszr)
      have HB4 : Hid (Below w.heap.size w w4) := (HB1.out.trans (HBEL.out.mono hsw)).trans ((hg1.trans g4).mono (Nat.le_trans hsw hszr))
      clear o1 g1 hg1 hW1 o4 g4 HE oL oH HOWN
      go_wp2_with (first | (at_builtin; refine wpList_append_run rfl (.tmp 33) (.tmp 34) 23 rfl _ _ rfl rfl _ _ r1 ?_) | (at_builtin; refine wpList_append_run rfl (.tmp 35) (.tmp 36) 23 rfl _ _ rfl rfl _ _ r4 ?_))
      go_ret2
      exact LOut.yes HO4.out HB4.out
set_option maxHeartbeats 1000000 in
theorem iro_no (s : Int) (a : Option Addr) (cap : Nat) (l : List Int) (w : World) (hn : l.length ≤ 1048576) (hZ : Is w.heap.size a l w) (hg0 : goodT s l = false) :
    Calls Try.prog 23 #[.int .i64 s, .slice a l.length cap] w (LOut [] false w) := by
  have hb := boxB w (.cells #[.int .i64 s] 3)
  have hc : (w.alloc (.cells #[.int .i64 s] 3)).cell? ⟨w.heap.size, 0, none⟩ = some (.int .i64 s) := box_cell (heap_last _ _) 0
  have HT := hid (isTrack_any s (w.alloc (.cells #[.int .i64 s] 3)))
  have HG := hid (igoodA_any a cap l (w.alloc (.cells #[.int .i64 s] 3)) hn ((hZ.below hb).mono hb.size))
  have HB := hid hb
  clear hb
  rcases goodT_cases s l with ⟨ht, hg⟩ | ⟨ht, ha, hg⟩ | ⟨ht, ha, hg⟩
  · rw [ht] at HT
    clear hg0 hg
    go_enter Try.func23, Try.ntmps23
    go_wp2_with fail
    refine HT.out.mono ?_
    rintro e w2 ⟨rfl, hw2⟩
    rw [hw2]
    clear hw2
    go_wp2
    go_ret2
    exact LOut.no HB.out
  · rw [ht] at HT
    rw [ha] at HG
    clear hg0 hg
    go_enter Try.func23, Try.ntmps23
    go_wp2_with fail
    refine HT.out.mono ?_
    rintro e w2 ⟨rfl, hw2⟩
    rw [hw2]
    clear hw2
    go_wp2_with fail
    refine HG.out.mono ?_
    rintro e w2 ⟨rfl, hw2⟩
    rw [hw2]
    clear hw2
    go_wp2
    go_ret2
    exact LOut.no HB.out
  · rw [hg0] at hg; cases hg
set_option maxHeartbeats 2000000 in
theorem iro_yes (s : Int) (a : Option Addr) (cap : Nat) (l : List Int) (w : World) (hn : l.length ≤ 1048576) (hZ : Is w.heap.size a l w) (hg : goodT s l = true) :
    Calls Try.prog 23 #[.int .i64 s, .slice a l.length cap] w (LOut (roundL s l) true w) := by
  have hp := goodT_parts hg
  have h8 := goodA_len hp.2
  have hb := boxB w (.cells #[.int .i64 s] 3)
  have hc : (w.alloc (.cells #[.int .i64 s] 3)).cell? ⟨w.heap.size, 0, none⟩ = some (.int .i64 s) := box_cell (heap_last _ _) 0
  have HT := hid (isTrack_any s (w.alloc (.cells #[.int .i64 s] 3)))
  have HG := hid (igoodA_any a cap l (w.alloc (.cells #[.int .i64 s] 3)) hn ((hZ.below hb).mono hb.size))
  rw [trkB_iff.2 hp.1] at HT
  rw [hp.2] at HG
  have HP := hid (parted_round1 s w.heap.size a cap l (w.alloc (.cells #[.int .i64 s] 3)) (by omega) ((hZ.below hb).mono hb.size) (by simp) hc)
  have hl1 : (l.filter fun x => decide (s ≤ x)).length ≤ l.length := List.length_filter_le _ _
  have hl2 : (l.filter fun x => !decide (s ≤ x)).length ≤ l.length := List.length_filter_le _ _
  have HE := hid (round_eq s l)
  have HB := hid hb
  clear hb hZ hg hp
  generalize (l.filter fun x => decide (s ≤ x)) = P at *
  generalize (l.filter fun x => !decide (s ≤ x)) = Q at *
  go_enter Try.func23, Try.ntmps23
  go_wp2_with fail
  refine HT.out.mono ?_
  rintro e w2 ⟨rfl, hw2⟩
  rw [hw2]
  clear hw2
  go_wp2_with fail
  refine HG.out.mono ?_
  rintro e w2 ⟨rfl, hw2⟩
  rw [hw2]
  clear hw2
  go_wp2_with fail
  refine HP.out.mono ?_
  rintro e w1 ⟨u, v, rfl, o1, b1⟩
  obtain ⟨aP, cP, rfl, hP, hcP⟩ := o1.left.own
  obtain ⟨aQ, cQ, rfl, hQ, hcQ⟩ := o1.right.own
  have HB1 : Hid (Below w.heap.size w w1) := HB.out.trans (b1.mono (by simp))
  have HQ := hid hQ.is
  have HR1 := hid (rising_any aP cP P w1 (by omega) hP.is)
  clear o1 b1 hP hQ HP HB HT HG hc
  go_wp2_with fail
  refine HR1.out.mono ?_
  rintro e w2 ⟨v2, rfl, o2, b2⟩
  have HO2 := hid o2
  have HB2 := hid b2
  have HR2 := hid (rising_any aQ cQ Q w2 (by omega) ((HQ.out.below b2).mono b2.size))
  clear o2 b2 HR1 HQ
  go_wp2_with fail
  refine HR2.out.mono ?_
  rintro e w3 ⟨v3, rfl, o3, b3⟩
  obtain ⟨a2, c2, rfl, ho2, hc2⟩ := (HO2.out.below b3).own
  obtain ⟨a3, c3, rfl, ho3, hc3⟩ := o3.own
  have hS2 : (sortN P).length ≤ 4000 := by rw [sortN_len]; omega
  have hS3 : (sortN Q).length ≤ 4000 := by rw [sortN_len]; omega
  have hbx := boxB w3 (.cells #[.slice a2 (sortN P).length c2, .slice a3 (sortN Q).length c3] 23)
  have HC := hid (concat_two w3.heap.size a2 a3 c2 c3 (sortN P) (sortN Q) (w3.alloc (.cells #[.slice a2 (sortN P).length c2, .slice a3 (sortN Q).length c3] 23)) hS2 hS3 (heap_last _ _) ((ho2.is.below hbx).mono hbx.size) ((ho3.is.below hbx).mono hbx.size))
  have hsz1 := HB1.out.size
  have hsz2 := HB2.out.size
  have hsz3 := b3.size
  have HB3 : Hid (Below w.heap.size w (w3.alloc (.cells #[.slice a2 (sortN P).length c2, .slice a3 (sortN Q).length c3] 23))) := HB1.out.trans (((HB2.out.trans (b3.mono hsz2)).mono hsz1).trans (hbx.mono (by omega)))
  clear o3 b3 hbx HO2 ho2 ho3 HR2 HB1 HB2
  generalize sortN P = XX at *
  generalize sortN Q = YY at *
  go_wp2_with fail
  refine HC.out.mono ?_
  rintro e w4 ⟨v4, rfl, o4, b4⟩
  have HO4 : Hid (AL w.heap.size v4 (roundL s l) w4) := by
    show AL w.heap.size v4 (roundL s l) w4
    rw [HE.out]
    exact o4.mono HB3.out.size
  have HB4 : Hid (Below w.heap.size w w4) := HB3.out.trans (b4.mono HB3.out.size)
  clear o4 b4 HC HE HB3
  go_wp2
  go_ret2
  exact LOut.yes HO4.out HB4.out
end Go.Proofs.Ytpjmblhfahbopaa
