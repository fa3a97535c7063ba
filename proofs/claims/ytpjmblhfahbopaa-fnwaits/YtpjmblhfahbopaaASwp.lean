/- The model's sweep; two lists of one's own side by side. -/
import Derived.Test.YtpjmblhfahbopaaAMod
namespace Go.Proofs.Ytpjmblhfahbopaa
set_option maxRecDepth 100000
open Go Go.ChangeShapes Go.WideShapes Go.ChangeAt Go.RowKit
/-- two lists of one's own, apart -/
structure AL2 (lo : Nat) (u : Value) (L : List Int) (v : Value) (H : List Int) (w : World) : Prop where
  left : AL lo u L w
  right : AL lo v H w
  apart : ∀ b, u.ownBlock = some b → v.ownBlock = some b → False
theorem AL2.nil (lo : Nat) (w : World) : AL2 lo (.slice none 0 0) [] (.slice none 0 0) [] w := ⟨AL.nil _ _, AL.nil _ _, fun b h => by cases h⟩
theorem AL2.swap {lo : Nat} {u v : Value} {L H : List Int} {w : World} (h : AL2 lo u L v H w) : AL2 lo v H u L w := ⟨h.right, h.left, fun b h1 h2 => h.apart b h2 h1⟩
theorem AL2.push {lo : Nat} {u v : Value} {L H : List Int} {w : World} (h : AL2 lo u L v H w) (hlo : lo ≤ w.heap.size) (n : Int) (hm : L.length + 1 ≤ 10000) :
    ∃ u' w', (∀ ty, (Builtin.append_ #[23, 23] ty #[u, .slice (some ⟨w.heap.size, 0, none⟩) 1 1]).run Try.prog (w.alloc (.cells #[.int .i64 n] 3)) = .ok u' w') ∧ AL2 lo u' (L ++ [n]) v H w' ∧ Below lo w w' := by
  obtain ⟨u', w', h1, h2, h3, _, h5, h6⟩ := h.left.push hlo n hm
  have hb := boxB w (.cells #[.int .i64 n] 3)
  have hv := h.right.below hb
  refine ⟨u', w', h1, ⟨h2, ?_, fun b e1 e2 => ?_⟩, h3⟩
  · exact rw_keep hv (fun k hk => h5.block k (World.ownsRow.lt hv k hk).2 (fun e => h.apart k e.symm hk))
  · have hlt := (World.ownsRow.lt h.right b e2).2
    rcases h6 with h6 | h6
    · rw [h6] at e1; exact h.apart b e1 e2
    · rw [h6] at e1; injection e1 with e1; omega
theorem filter_snoc_yes (p : Int → Bool) (T : List Int) (k : Nat) (h : k < T.length) (hp : p T[k] = true) : (T.take (k + 1)).filter p = (T.take k).filter p ++ [T[k]] := by
  rw [List.take_succ_eq_append_getElem h, List.filter_append]; simp [hp]
theorem filter_snoc_no (p : Int → Bool) (T : List Int) (k : Nat) (h : k < T.length) (hp : p T[k] = false) : (T.take (k + 1)).filter p = (T.take k).filter p := by
  rw [List.take_succ_eq_append_getElem h, List.filter_append]; simp [hp]
theorem filter_take_len (p : Int → Bool) (T : List Int) (k : Nat) : ((T.take k).filter p).length ≤ T.length := Nat.le_trans (List.length_filter_le _ _) (by rw [List.length_take]; omega)
set_option maxHeartbeats 4000000 in
theorem sweep_up (s : Int) (a : Option Addr) (cap : Nat) (l : List Int) (w : World) (hn : l.length ≤ 4000) (hZ : Is w.heap.size a l w) :
    Calls Try.prog 34 #[.int .i64 s, .slice a l.length cap, .bool true] w fun e w' => ∃ v, e = .returned v ∧ AL w.heap.size v (sweepL s l true) w' ∧ Below w.heap.size w w' := by
  have HS := hid (sorted_any a cap l w (by omega) hZ)
  have hlT := sortN_len l
  have HE : Hid (sweepL s l true = (sortN l).filter (fun n => !lowB s true n) ++ ((sortN l).filter (lowB s true)).reverse) := rfl
  clear hZ
  generalize sortN l = T at *
  have hT : T.length ≤ 4000 := by omega
  have HT := hid hlT
  clear hlT hn
  go_enter Try.func34, Try.ntmps34
  go_wp2_with fail
  refine HS.out.mono ?_
  rintro e w1 ⟨vT, rfl, oT, b1⟩
  obtain ⟨aT, cT, rfl, hoT, hcT⟩ := oT.own
  have HI := hid hoT.is
  have HB1 := hid b1
  clear hoT oT b1 HS
  go_wp2_with fail
  go_loopw [7, 8, 14] (fun o p i wr => ∃ (k : Nat) (o1 p1 : Value), k ≤ T.length ∧ i = .int .i64 k ∧ o = o1 ∧ p = p1 ∧ AL2 w1.heap.size o1 ((T.take k).filter (lowB s true)) p1 ((T.take k).filter (fun n => !lowB s true n)) wr ∧ Below w1.heap.size w1 wr) (fun _ _ i _ => T.length - (intOf i).toNat)
  case atStart => exact ⟨0, _, _, Nat.zero_le _, rfl, rfl, rfl, AL2.nil _ _, Below.refl _ _⟩
  case round =>
    obtain ⟨k, _, _, hk, rfl, rfl, rfl, hown, hbel⟩ := hrel
    have HOWN := hid hown
    have HBEL := hid hbel
    have hszr := hbel.size
    clear hown hbel
    by_cases hlt : k < T.length
    · obtain ⟨b, off, rfl, hb, hc⟩ := HI.out.cell (by omega)
      have x0 := (HBEL.out.cell (p := ⟨b, off + k, none⟩) hb).trans (hc k hlt)
      have HY := hid (filter_snoc_yes (lowB s true) T k hlt)
      have HN := hid (filter_snoc_no (lowB s true) T k hlt)
      have HY2 := hid (filter_snoc_yes (fun n => !lowB s true n) T k hlt)
      have HN2 := hid (filter_snoc_no (fun n => !lowB s true n) T k hlt)
      have hl1 := filter_take_len (lowB s true) T k
      have hl2 := filter_take_len (fun n => !lowB s true n) T k
      clear hc
      generalize T[k] = x at *
      by_cases h1 : x < s
      · have d1 : decide (x < s) = true := decide_eq_true h1
        have hq : Hid (lowB s true x = true) := by show _ = _; unfold lowB; simp; omega
        have e1 := HY.out hq.out
        have e2 := HN2.out (by rw [hq.out]; rfl)
        obtain ⟨v', w', r1, o1, g1⟩ := HOWN.out.push hszr x (by omega)
        rw [← e1, ← e2] at o1
        have HO := hid o1
        have HB' : Hid (Below w1.heap.size w1 w') := HBEL.out.trans g1
        clear o1 g1 HOWN HY HN HY2 HN2 e1 e2 hl1 hl2
        go_wp2_with (at_builtin; refine wpList_append_run rfl (.tmp 30) (.tmp 32) 23 rfl _ _ rfl rfl _ _ r1 ?_)
        go_roundw
        case rel => exact ⟨k + 1, _, _, by omega, by go_num, rfl, rfl, HO.out, HB'.out⟩
        case measure => simp [intOf]; omega
      · have d1 : decide (x < s) = false := decide_eq_false h1
        by_cases h2 : x = s
        · have d2 : (x == s) = true := by simpa using h2
          have hq0 : Hid (x = s) := h2
          clear h2
          have hq : Hid (lowB s true x = false) := by show _ = _; have := hq0.out; unfold lowB; simp; omega
          have e1 := HN.out hq.out
          have e2 := HY2.out (by rw [hq.out]; rfl)
          obtain ⟨v', w', r1, o1, g1⟩ := HOWN.out.swap.push hszr x (by omega)
          rw [← e1, ← e2] at o1
          have o1 := o1.swap
          have HO := hid o1
          have HB' : Hid (Below w1.heap.size w1 w') := HBEL.out.trans g1
          clear o1 g1 HOWN HY HN HY2 HN2 e1 e2 hl1 hl2
          go_wp2_with (at_builtin; refine wpList_append_run rfl (.tmp 34) (.tmp 36) 23 rfl _ _ rfl rfl _ _ r1 ?_)
          go_roundw
          case rel => exact ⟨k + 1, _, _, by omega, by go_num, rfl, rfl, HO.out, HB'.out⟩
          case measure => simp [intOf]; omega
        · have d2 : (x == s) = false := by simpa using h2
          have hq0 : Hid (¬ x = s) := h2
          clear h2
          have hq : Hid (lowB s true x = false) := by show _ = _; have := hq0.out; unfold lowB; simp; omega
          have e1 := HN.out hq.out
          have e2 := HY2.out (by rw [hq.out]; rfl)
          obtain ⟨v', w', r1, o1, g1⟩ := HOWN.out.swap.push hszr x (by omega)
          rw [← e1, ← e2] at o1
          have o1 := o1.swap
          have HO := hid o1
          have HB' : Hid (Below w1.heap.size w1 w') := HBEL.out.trans g1
          clear o1 g1 HOWN HY HN HY2 HN2 e1 e2 hl1 hl2
          go_wp2_with (at_builtin; refine wpList_append_run rfl (.tmp 34) (.tmp 36) 23 rfl _ _ rfl rfl _ _ r1 ?_)
          go_roundw
          case rel => exact ⟨k + 1, _, _, by omega, by go_num, rfl, rfl, HO.out, HB'.out⟩
          case measure => simp [intOf]; omega
    · obtain rfl : k = T.length := by omega
      rw [List.take_length] at HOWN
      have hl1 : (T.filter (lowB s true)).length ≤ T.length := List.length_filter_le _ _
      have hl2 : (T.filter (fun n => !lowB s true n)).length ≤ T.length := List.length_filter_le _ _
      generalize T.filter (lowB s true) = LL at *
      generalize T.filter (fun n => !lowB s true n) = HH at *
      obtain ⟨aL, cL, rfl, oL, hcL⟩ := HOWN.out.left.own
      obtain ⟨aH, cH, rfl, oH, hcH⟩ := HOWN.out.right.own
      have IL := hid oL.is
      have IH := hid oH.is
      have hsw := HB1.out.size
      clear oL oH HOWN
      have hW1 := boxB wr (.cells #[] 3)
      obtain ⟨v1, w2, r1, o1, g1, -⟩ := (AL.lit wr).app hW1.size aH cH HH ((IH.out.below hW1).mono hW1.size) (by simp; omega)
      rw [List.nil_append] at o1
      have hg1 : Below wr.heap.size wr w2 := hW1.trans g1
      have HT2 := hid (turned_any aL cL LL w2 (by omega) ((IL.out.below hg1).mono hg1.size))
      have HO1 := hid o1
      have HG1 := hid hg1
      clear o1 g1 hg1 hW1 IL IH
      go_wp2_with (have _t := r1; at_builtin; refine wpList_append_run rfl (.tmp 40) (.tmp 41) 23 rfl _ _ rfl rfl _ _ r1 ?_; clear r1 _t)
      refine HT2.out.mono ?_
      rintro e w3 ⟨v3, rfl, o3, b3⟩
      obtain ⟨a3, c3, rfl, oo3, hc3⟩ := o3.own
      have hsz2 := HG1.out.size
      obtain ⟨v4, w4, r4, o4, g4, -⟩ := (HO1.out.below b3).app (Nat.le_trans hsz2 b3.size) a3 c3 LL.reverse oo3.is (by simp; omega)
      rw [List.length_reverse] at r4
      have HO4 : Hid (AL w.heap.size v4 (sweepL s l true) w4) := by
        show AL w.heap.size v4 (sweepL s l true) w4
        rw [HE.out]
        exact o4.mono (Nat.le_trans hsw hszr)
      have HB4 : Hid (Below w.heap.size w w4) := (HB1.out.trans (HBEL.out.mono hsw)).trans (((HG1.out.trans (b3.mono hsz2)).trans g4).mono (Nat.le_trans hsw hszr))
      clear o3 b3 oo3 o4 g4 HO1 HG1 HT2 HE
      go_wp2_with (at_builtin; refine wpList_append_run rfl (.tmp 42) (.tmp 44) 23 rfl _ _ rfl rfl _ _ r4 ?_)
      go_ret
      exact ⟨_, rfl, HO4.out, HB4.out⟩
set_option maxHeartbeats 4000000 in
theorem sweep_down (s : Int) (a : Option Addr) (cap : Nat) (l : List Int) (w : World) (hn : l.length ≤ 4000) (hZ : Is w.heap.size a l w) :
    Calls Try.prog 34 #[.int .i64 s, .slice a l.length cap, .bool false] w fun e w' => ∃ v, e = .returned v ∧ AL w.heap.size v (sweepL s l false) w' ∧ Below w.heap.size w w' := by
  have HS := hid (sorted_any a cap l w (by omega) hZ)
  have hlT := sortN_len l
  have HE : Hid (sweepL s l false = ((sortN l).filter (lowB s false)).reverse ++ (sortN l).filter (fun n => !lowB s false n)) := rfl
  clear hZ
  generalize sortN l = T at *
  have hT : T.length ≤ 4000 := by omega
  have HT := hid hlT
  clear hlT hn
  go_enter Try.func34, Try.ntmps34
  go_wp2_with fail
  refine HS.out.mono ?_
  rintro e w1 ⟨vT, rfl, oT, b1⟩
  obtain ⟨aT, cT, rfl, hoT, hcT⟩ := oT.own
  have HI := hid hoT.is
  have HB1 := hid b1
  clear hoT oT b1 HS
  go_wp2_with fail
  go_loopw [7, 8, 14] (fun o p i wr => ∃ (k : Nat) (o1 p1 : Value), k ≤ T.length ∧ i = .int .i64 k ∧ o = o1 ∧ p = p1 ∧ AL2 w1.heap.size o1 ((T.take k).filter (lowB s false)) p1 ((T.take k).filter (fun n => !lowB s false n)) wr ∧ Below w1.heap.size w1 wr) (fun _ _ i _ => T.length - (intOf i).toNat)
  case atStart => exact ⟨0, _, _, Nat.zero_le _, rfl, rfl, rfl, AL2.nil _ _, Below.refl _ _⟩
  case round =>
    obtain ⟨k, _, _, hk, rfl, rfl, rfl, hown, hbel⟩ := hrel
    have HOWN := hid hown
    have HBEL := hid hbel
    have hszr := hbel.size
    clear hown hbel
    by_cases hlt : k < T.length
    · obtain ⟨b, off, rfl, hb, hc⟩ := HI.out.cell (by omega)
      have x0 := (HBEL.out.cell (p := ⟨b, off + k, none⟩) hb).trans (hc k hlt)
      have HY := hid (filter_snoc_yes (lowB s false) T k hlt)
      have HN := hid (filter_snoc_no (lowB s false) T k hlt)
      have HY2 := hid (filter_snoc_yes (fun n => !lowB s false n) T k hlt)
      have HN2 := hid (filter_snoc_no (fun n => !lowB s false n) T k hlt)
      have hl1 := filter_take_len (lowB s false) T k
      have hl2 := filter_take_len (fun n => !lowB s false n) T k
      clear hc
      generalize T[k] = x at *
      by_cases h1 : x < s
      · have d1 : decide (x < s) = true := decide_eq_true h1
        have hq : Hid (lowB s false x = true) := by show _ = _; unfold lowB; simp; omega
        have e1 := HY.out hq.out
        have e2 := HN2.out (by rw [hq.out]; rfl)
        obtain ⟨v', w', r1, o1, g1⟩ := HOWN.out.push hszr x (by omega)
        rw [← e1, ← e2] at o1
        have HO := hid o1
        have HB' : Hid (Below w1.heap.size w1 w') := HBEL.out.trans g1
        clear o1 g1 HOWN HY HN HY2 HN2 e1 e2 hl1 hl2
        go_wp2_with (at_builtin; refine wpList_append_run rfl (.tmp 30) (.tmp 32) 23 rfl _ _ rfl rfl _ _ r1 ?_)
        go_roundw
        case rel => exact ⟨k + 1, _, _, by omega, by go_num, rfl, rfl, HO.out, HB'.out⟩
        case measure => simp [intOf]; omega
      · have d1 : decide (x < s) = false := decide_eq_false h1
        by_cases h2 : x = s
        · have d2 : (x == s) = true := by simpa using h2
          have hq0 : Hid (x = s) := h2
          clear h2
          have hq : Hid (lowB s false x = true) := by show _ = _; have := hq0.out; unfold lowB; simp; omega
          have e1 := HY.out hq.out
          have e2 := HN2.out (by rw [hq.out]; rfl)
          obtain ⟨v', w', r1, o1, g1⟩ := HOWN.out.push hszr x (by omega)
          rw [← e1, ← e2] at o1
          have HO := hid o1
          have HB' : Hid (Below w1.heap.size w1 w') := HBEL.out.trans g1
          clear o1 g1 HOWN HY HN HY2 HN2 e1 e2 hl1 hl2
          go_wp2_with (at_builtin; refine wpList_append_run rfl (.tmp 30) (.tmp 32) 23 rfl _ _ rfl rfl _ _ r1 ?_)
          go_roundw
          case rel => exact ⟨k + 1, _, _, by omega, by go_num, rfl, rfl, HO.out, HB'.out⟩
          case measure => simp [intOf]; omega
        · have d2 : (x == s) = false := by simpa using h2
          have hq0 : Hid (¬ x = s) := h2
          clear h2
          have hq : Hid (lowB s false x = false) := by show _ = _; have := hq0.out; unfold lowB; simp; omega
          have e1 := HN.out hq.out
          have e2 := HY2.out (by rw [hq.out]; rfl)
          obtain ⟨v', w', r1, o1, g1⟩ := HOWN.out.swap.push hszr x (by omega)
          rw [← e1, ← e2] at o1
          have o1 := o1.swap
          have HO := hid o1
          have HB' : Hid (Below w1.heap.size w1 w') := HBEL.out.trans g1
          clear o1 g1 HOWN HY HN HY2 HN2 e1 e2 hl1 hl2
          go_wp2_with (at_builtin; refine wpList_append_run rfl (.tmp 34) (.tmp 36) 23 rfl _ _ rfl rfl _ _ r1 ?_)
          go_roundw
          case rel => exact ⟨k + 1, _, _, by omega, by go_num, rfl, rfl, HO.out, HB'.out⟩
          case measure => simp [intOf]; omega
    · obtain rfl : k = T.length := by omega
      rw [List.take_length] at HOWN
      have hl1 : (T.filter (lowB s false)).length ≤ T.length := List.length_filter_le _ _
      have hl2 : (T.filter (fun n => !lowB s false n)).length ≤ T.length := List.length_filter_le _ _
      generalize T.filter (lowB s false) = LL at *
      generalize T.filter (fun n => !lowB s false n) = HH at *
      obtain ⟨aL, cL, rfl, oL, hcL⟩ := HOWN.out.left.own
      obtain ⟨aH, cH, rfl, oH, hcH⟩ := HOWN.out.right.own
      have IL := hid oL.is
      have IH := hid oH.is
      have hsw := HB1.out.size
      clear oL oH HOWN
      have HT2 := hid (turned_any aL cL LL wr (by omega) IL.out)
      clear IL
      go_wp2_with fail
      refine HT2.out.mono ?_
      rintro e w3 ⟨v3, rfl, o3, b3⟩
      obtain ⟨v4, w4, r4, o4, g4, -⟩ := o3.app b3.size aH cH HH ((IH.out.below b3).mono b3.size) (by simp; omega)
      have HO4 : Hid (AL w.heap.size v4 (sweepL s l false) w4) := by
        show AL w.heap.size v4 (sweepL s l false) w4
        rw [HE.out]
        exact o4.mono (Nat.le_trans hsw hszr)
      have HB4 : Hid (Below w.heap.size w w4) := (HB1.out.trans (HBEL.out.mono hsw)).trans ((b3.trans g4).mono (Nat.le_trans hsw hszr))
      clear o3 b3 o4 g4 HT2 HE
      go_wp2_with (at_builtin; refine wpList_append_run rfl (.tmp 47) (.tmp 48) 23 rfl _ _ rfl rfl _ _ r4 ?_)
      go_ret
      exact ⟨_, rfl, HO4.out, HB4.out⟩
theorem sweep_any (s : Int) (a : Option Addr) (cap : Nat) (l : List Int) (up : Bool) (w : World) (hn : l.length ≤ 4000) (hZ : Is w.heap.size a l w) :
    Calls Try.prog 34 #[.int .i64 s, .slice a l.length cap, .bool up] w fun e w' => ∃ v, e = .returned v ∧ AL w.heap.size v (sweepL s l up) w' ∧ Below w.heap.size w w' := by
  cases up
  · exact sweep_down s a cap l w hn hZ
  · exact sweep_up s a cap l w hn hZ
end Go.Proofs.Ytpjmblhfahbopaa
