/- NearestOrder: the program. -/
import Derived.Test.YtpjmblhfahbopaaANeM
import Derived.Test.YtpjmblhfahbopaaAPro
import Derived.Test.YtpjmblhfahbopaaAShD
import Derived.Deep.QuietTactic
import Derived.BigQuiet
namespace Go.Proofs.Ytpjmblhfahbopaa
set_option maxRecDepth 100000
open Go Go.ChangeShapes Go.WideShapes Go.ChangeAt Go.RowKit
set_option maxHeartbeats 1000000 in
theorem nearest_any (m : Int) (a : Option Addr) (cap : Nat) (l : List Int) (w : World) (hs : 0 ≤ m ∧ m ≤ 200) (hl : ∀ x ∈ l, (0 : Int) ≤ x ∧ x ≤ 200) (h0 : 0 < l.length) (hn : l.length ≤ 8) (hZ : Is w.heap.size a l w) :
    Calls Try.prog 39 #[.int .i64 m, .slice a l.length cap] w fun e w' => ∃ k : Nat, e = .returned (.int .i64 (k : Int)) ∧ NFst m l l.length k ∧ Below w.heap.size w w' := by
  have HZ := hid hZ
  have HL : Hid (∀ x ∈ l, (0 : Int) ≤ x ∧ x ≤ 200) := hl
  have HST := hid (NFst.start (arm := m) h0)
  obtain ⟨b, off, rfl, hb, hc⟩ := hZ.cell h0
  have HC := hid hc
  clear hZ hl hc
  go_enter Try.func39, Try.ntmps39
  go_wp2_with fail
  go_loopw [5, 10] (fun q i wr => ∃ (j k : Nat), j ≤ l.length ∧ i = .int .i64 j ∧ q = .int .i64 k ∧ NFst m l j k ∧ Below w.heap.size w wr) (fun _ i _ => l.length - (intOf i).toNat)
  case atStart => exact ⟨0, 0, Nat.zero_le _, rfl, rfl, HST.out, Below.refl _ _⟩
  case round =>
    obtain ⟨j, k, hj, rfl, rfl, hf, hbel⟩ := hrel
    have HF := hid hf
    have HBEL := hid hbel
    clear HST
    by_cases hlt : j < l.length
    · have hkl := hf.lt
      have x0 := (hbel.cell (p := ⟨b, off + j, none⟩) hb).trans (HC.out j hlt)
      have y0 := (hbel.cell (p := ⟨b, off + k, none⟩) hb).trans (HC.out k hkl)
      have hx := HL.out l[j] (List.getElem_mem hlt)
      have hy := HL.out l[k] (List.getElem_mem hkl)
      have u1 := upN_le m l[j] hs hx
      have u2 := upN_le l[j] m hx hs
      have u3 := upN_le m l[k] hs hy
      have u4 := upN_le l[k] m hy hs
      have u1' : upN m l[j] ≤ 2000 := by omega
      have u2' : upN l[j] m ≤ 2000 := by omega
      have u3' : upN m l[k] ≤ 2000 := by omega
      have u4' : upN l[k] m ≤ 2000 := by omega
      have HBT : Hid (∀ (x : Int) (v : World), 0 ≤ x ∧ x ≤ 200 → Calls Try.prog 53 #[.int .i64 m, .int .i64 x] v fun e w' => e = .returned (.complex .f64 (fl (upN m x)) (fl (upN x m))) ∧ w' = v) := fun x v h => between_any m x v hs h
      have HD0 : Hid (¬ stepN m l[j] < stepN m l[k] → NFst m l (j + 1) k) := fun h => hf.stay hlt h
      have HD1 : Hid (stepN m l[j] < stepN m l[k] → NFst m l (j + 1) j) := fun h => hf.move hlt h
      have hcmp : decide (((upN m l[j] + upN l[j] m : Nat) : Int) < ((upN m l[k] + upN l[k] m : Nat) : Int)) = decide (stepN m l[j] < stepN m l[k]) := by
        unfold stepN
        simp only [Int.ofNat_lt]
      have hcmpN : decide (upN m l[j] + upN l[j] m < upN m l[k] + upN l[k] m) = decide (stepN m l[j] < stepN m l[k]) := rfl
      have hcmpI : decide (((upN m l[j] : Nat) : Int) + ((upN l[j] m : Nat) : Int) < ((upN m l[k] : Nat) : Int) + ((upN l[k] m : Nat) : Int)) = decide (stepN m l[j] < stepN m l[k]) := by
        unfold stepN
        by_cases c : upN m l[j] + upN l[j] m < upN m l[k] + upN l[k] m
        · rw [decide_eq_true c, decide_eq_true (by omega)]
        · rw [decide_eq_false c, decide_eq_false (by omega)]
      have HXX := hid hx
      have HYY := hid hy
      clear hbel hf u1 u2 u3 u4
      generalize l[j] = x at *
      generalize l[k] = y at *
      generalize stepN m x = sx at *
      generalize stepN m y = sy at *
      go_wp2_with fail
      go_quiet (first | (go_at_call 53; exact Calls.quiet_of_same (HBT.out _ _ (by assumption))) | (go_at_call 31; exact Calls.quiet_of_same (steps_any _ _ _ (by assumption) (by assumption))))
      cases hq : decide (sx < sy)
      · rw [hq] at hcmp hcmpN hcmpI
        have HN := hid (HD0.out (of_decide_eq_false hq))
        clear HD0 HD1 hq
        go_wp2
        go_roundw
        case rel => exact ⟨j + 1, k, by omega, by go_num, rfl, HN.out, HBEL.out.trans ((belowN _ _).mono HBEL.out.size)⟩
        case measure => simp [intOf]; omega
      · rw [hq] at hcmp hcmpN hcmpI
        have HN := hid (HD1.out (of_decide_eq_true hq))
        clear HD0 HD1 hq
        go_wp2
        go_roundw
        case rel => exact ⟨j + 1, j, by omega, by go_num, rfl, HN.out, HBEL.out.trans ((belowN _ _).mono HBEL.out.size)⟩
        case measure => simp [intOf]; omega
    · obtain rfl : j = l.length := by omega
      clear hbel hf
      go_wp2
      go_ret
      exact ⟨k, rfl, HF.out, HBEL.out⟩
theorem AL.cut {lo R c : Nat} {l : List Int} {w : World} (h : AL lo (.slice (some ⟨R, 0, none⟩) l.length c) l w) (k : Nat) (hk : k ≤ l.length) : AL lo (.slice (some ⟨R, 0, none⟩) k c) (l.take k) w := by
  have h9 : w.ownsRow lo 3 1 (.slice (some ⟨R, 0, none⟩) l.length c) l.length (ivals l) := h
  have hlen : (l.take k).length = k := by rw [List.length_take]; omega
  unfold AL
  rw [hlen]
  obtain ⟨hl, ⟨e, _⟩ | ⟨g, cap, cur, e, h1, hg, h2, h3, h4, h5⟩⟩ := h9
  · cases e
  · injection e with e1 _ e3
    injection e1 with e1
    injection e1 with e1 _ _
    subst e1; subst e3
    refine ⟨by simp [ivals]; omega, Or.inr ⟨R, c, cur, rfl, h1, hg, by omega, h3, h4, ?_⟩⟩
    have : ivals (l.take k) = (ivals l).take k := by unfold ivals; rw [List.map_take]
    rw [this, ← h5, List.take_take]
    congr 1; omega
/-- one is deleted from a list of one's own -/
theorem delAL (lo R c : Nat) (l : List Int) (k : Nat) (w : World) (h : AL lo (.slice (some ⟨R, 0, none⟩) l.length c) l w) (hk : k < l.length) :
    Calls Try.prog 40 #[.slice (some ⟨R, 0, none⟩) l.length c, .int .i64 (k : Int), .int .i64 ((k : Int) + 1)] w fun e w' => e = .returned (.slice (some ⟨R, 0, none⟩) (l.eraseIdx k).length c) ∧ AL lo (.slice (some ⟨R, 0, none⟩) (l.eraseIdx k).length c) (l.eraseIdx k) w' ∧ w.grownBy w' (some R) := by
  have h9 : w.ownsRow lo 3 1 (.slice (some ⟨R, 0, none⟩) l.length c) l.length (ivals l) := h
  obtain ⟨hl, ⟨e, _⟩ | ⟨g, cap, cur, e, h1, hg, h2, h3, h4, h5⟩⟩ := h9
  · cases e
  · injection e with e1 _ e3
    injection e1 with e1
    injection e1 with e1 _ _
    subst e1; subst e3
    have hH : Go.Sort.Holds (Value.int .i64) w R 0 l.toArray := holds_of_block_i hg (by rw [Nat.mul_one] at h5; exact h5)
    have hm : c ≤ 9223372036854775807 := by unfold maxLen at h3; omega
    have hcall := delI_row R 0 c k (k + 1) l w hH h2 hm (by omega) (by omega)
    rw [show ((k + 1 : Nat) : Int) = (k : Int) + 1 from by omega] at hcall
    refine hcall.mono ?_
    rintro e w' ⟨he, q, hw⟩
    have hle : (l.eraseIdx k).length = l.length - 1 := by rw [List.length_eraseIdx, if_pos hk]
    have e1 : l.length - (k + 1 - k) = (l.eraseIdx k).length := by omega
    rw [e1] at he
    rw [← Go.Sort.grow_empty (Go.Sort.putRow _ _ _ _ _)] at hw
    have hts : (l.take k ++ l.drop (k + 1) ++ List.replicate (k + 1 - k) (0 : Int)).length = l.length := by simp; omega
    subst hw
    refine ⟨he, ?_, grownBy_sorted_i _⟩
    have := ownsRow_sorted_i (n := q) (os := #[]) (ss := l) (ts := l.take k ++ l.drop (k + 1) ++ List.replicate (k + 1 - k) (0 : Int)) hts h1 hg h2 h3 h4
    have hA : AL lo (.slice (some ⟨R, 0, none⟩) (l.take k ++ l.drop (k + 1) ++ List.replicate (k + 1 - k) (0 : Int)).length c) (l.take k ++ l.drop (k + 1) ++ List.replicate (k + 1 - k) (0 : Int)) (Go.Sort.grow (Go.Sort.putRow encZ (Go.Sort.ahead w q) R 0 (l.take k ++ l.drop (k + 1) ++ List.replicate (k + 1 - k) (0 : Int)).toArray) #[]) := by
      unfold AL
      rw [hts]
      exact this
    have hcut := hA.cut (l.eraseIdx k).length (by rw [hts]; omega)
    have ht : (l.take k ++ l.drop (k + 1) ++ List.replicate (k + 1 - k) (0 : Int)).take (l.eraseIdx k).length = l.eraseIdx k := by
      rw [← List.eraseIdx_eq_take_drop_succ, List.take_left]
    rw [ht] at hcut
    exact hcut
theorem AL2.below {lo : Nat} {u v : Value} {L H : List Int} {w w' : World} (h : AL2 lo u L v H w) (g : Below w.heap.size w w') : AL2 lo u L v H w' := ⟨h.left.below g, h.right.below g, h.apart⟩
theorem AL2.form {lo : Nat} {u v : Value} {L H : List Int} {w : World} (h : AL2 lo u L v H w) (h0 : 0 < L.length) : ∃ R c, u = .slice (some ⟨R, 0, none⟩) L.length c ∧ L.length ≤ c ∧ lo ≤ R := by
  rcases h.left.form with ⟨_, e⟩ | h
  · rw [e] at h0; exact absurd h0 (Nat.lt_irrefl _)
  · exact h
set_option maxHeartbeats 1000000 in
theorem ino_no (s : Int) (a : Option Addr) (cap : Nat) (l : List Int) (w : World) (hn : l.length ≤ 1048576) (hZ : Is w.heap.size a l w) (hg0 : goodT s l = false) :
    Calls Try.prog 15 #[.int .i64 s, .slice a l.length cap] w (LOut [] false w) := by
  have HT := hid (isTrack_any s w)
  have HG := hid (igoodA_any a cap l w hn hZ)
  rcases goodT_cases s l with ⟨ht, hg⟩ | ⟨ht, ha, hg⟩ | ⟨ht, ha, hg⟩
  · rw [ht] at HT
    clear hg0 hg
    go_enter Try.func15, Try.ntmps15
    go_wp2_with fail
    refine HT.out.mono ?_
    rintro e w2 ⟨rfl, hw2⟩
    rw [hw2]
    clear hw2
    go_wp2
    go_ret2
    exact LOut.no (Below.refl _ _)
  · rw [ht] at HT
    rw [ha] at HG
    clear hg0 hg
    go_enter Try.func15, Try.ntmps15
    go_wp2_with fail
    refine HT.out.mono ?_
    rintro e w2 ⟨rfl, hw2⟩
    rw [hw2]
    clear hw2
    go_wp2_with fail
    refine HG.out.mono ?_
    rintro e w2 ⟨rfl, hw2⟩
    rw [hw2]
    clear hw2
    go_wp2
    go_ret2
    exact LOut.no (Below.refl _ _)
  · rw [hg0] at hg; cases hg
set_option maxHeartbeats 1500000 in
theorem ino_yes (s : Int) (a : Option Addr) (cap : Nat) (l V : List Int) (w : World) (hn : l.length ≤ 1048576) (hZ : Is w.heap.size a l w) (hg : goodT s l = true) (hV : NearOrd s l V) :
    Calls Try.prog 15 #[.int .i64 s, .slice a l.length cap] w (LOut V true w) := by
  have hp := goodT_parts hg
  have h8 := goodA_len hp.2
  have HT := hid (isTrack_any s w)
  have HG := hid (igoodA_any a cap l w hn hZ)
  rw [trkB_iff.2 hp.1] at HT
  rw [hp.2] at HG
  have HR := hid (rising_any a cap l w (by omega) hZ)
  have HM := hid (goodA_mem hp.2)
  have HS := hid hp.1
  have HV := hid hV
  have HNS : Hid (NSt s l [] s (sortN l)) := NSt.start (sortN_perm l).symm (fun o h => ord_perm (sortN_perm l).symm h)
  have HSO := hid (sortN_sorted l)
  clear hg hZ hp hV
  go_enter Try.func15, Try.ntmps15
  go_wp2_with fail
  refine HT.out.mono ?_
  rintro e w2 ⟨rfl, hw2⟩
  rw [hw2]
  clear hw2
  go_wp2_with fail
  refine HG.out.mono ?_
  rintro e w2 ⟨rfl, hw2⟩
  rw [hw2]
  clear hw2
  go_wp2_with fail
  refine HR.out.mono ?_
  rintro e w1 ⟨v1, rfl, o1, b1⟩
  have HA2 : Hid (AL2 w.heap.size v1 (sortN l) (.slice none 0 0) [] w1) := ⟨o1, AL.nil _ _, fun b _ h => by cases h⟩
  have HB1 := hid b1
  clear o1 b1 HR HG HT
  go_wp2_with fail
  go_loopw [6, 7, 8] (fun q m o wr => ∃ (R d : List Int) (n : Int) (q1 o1 : Value), q = q1 ∧ m = .int .i64 n ∧ o = o1 ∧ AL2 w.heap.size q1 R o1 d wr ∧ NSt s l d n R ∧ R.Pairwise (· ≤ ·) ∧ Below w.heap.size w wr) (fun q _ _ _ => lenV q)
  case atStart => exact ⟨sortN l, [], s, _, _, rfl, rfl, rfl, HA2.out, HNS.out, HSO.out, HB1.out⟩
  case round =>
    obtain ⟨R, d, n, _, _, rfl, rfl, rfl, ha2, hns, hso, hbel⟩ := hrel
    clear HA2 HNS HSO HB1
    have HA := hid ha2
    have HN := hid hns
    have HO := hid hso
    have HB := hid hbel
    have hlen := hns.len
    by_cases h0 : 0 < R.length
    · obtain ⟨B, c, rfl, hcc, hB⟩ := ha2.form h0
      have hd : decide ((0 : Int) < (R.length : Int)) = true := decide_eq_true (by omega)
      have hm : 0 ≤ n ∧ n ≤ 200 := by
        rcases hns.armIn with e | e
        · rw [e]; exact HS.out
        · exact HM.out _ e
      have HRM : Hid (∀ x ∈ R, (0 : Int) ≤ x ∧ x ≤ 200) := fun x hx => HM.out x (hns.mem x hx)
      have HNE := hid (nearest_any n (some ⟨B, 0, none⟩) c R wr hm HRM.out h0 (by omega) (is_of ha2.left))
      have hR8 : R.length ≤ 8 := by omega
      have hd8 : d.length ≤ 8 := by omega
      have HMm := hid hm
      have hszr := hbel.size
      clear ha2 hns hso hbel hlen hm
      go_wp2_with fail
      refine HNE.out.mono ?_
      rintro e w2 ⟨k, rfl, hk, b2⟩
      have hkl := hk.lt
      have A2 := HA.out.below b2
      obtain ⟨B', off', e', hb', hc'⟩ := (is_of A2.left).cell h0
      injection e' with e'; injection e' with e1 e2 _
      subst e1; subst e2
      have x0 := hc' k hkl
      rw [Nat.zero_add] at x0
      have HST := hid (HN.out.step k hkl (hk.near HO.out))
      have HSO2 : Hid ((R.eraseIdx k).Pairwise (· ≤ ·)) := HO.out.sublist (List.eraseIdx_sublist R k)
      have hsz2 := b2.size
      obtain ⟨v', w', r1, o1, g1⟩ := A2.swap.push (Nat.le_trans hszr hsz2) R[k] (by omega)
      have A3 := o1.swap
      have HDL := hid (delAL w.heap.size B c R k w' A3.left hkl)
      have HA3 := hid A3
      have HB3 : Hid (Below w.heap.size w w') := HB.out.trans ((b2.mono hszr).trans g1)
      clear hc' hk A2 o1 A3 g1 b2 HNE HA HN HO HB
      generalize R[k] = x at *
      go_wp2_with (at_builtin; refine wpList_append_run rfl (.tmp 31) (.tmp 33) 23 rfl _ _ rfl rfl _ _ r1 ?_)
      refine HDL.out.mono ?_
      rintro e w4 ⟨rfl, o4, g4⟩
      have HA4 : Hid (AL2 w.heap.size (.slice (some ⟨B, 0, none⟩) (R.eraseIdx k).length c) (R.eraseIdx k) v' (d ++ [x]) w4) := ⟨o4, rw_keep HA3.out.right (fun j hj => g4.block j (World.ownsRow.lt HA3.out.right j hj).2 (fun e => HA3.out.apart j (by rw [e]; rfl) hj)), fun j h1 h2 => HA3.out.apart j h1 h2⟩
      have HB4 : Hid (Below w.heap.size w w4) := HB3.out.trans (below_of_grown g4 HB3.out.size (fun j hj => by cases hj; exact hB))
      have hel : (R.eraseIdx k).length = R.length - 1 := by rw [List.length_eraseIdx, if_pos hkl]
      have HEL := hid hel
      clear o4 g4 HDL HA3 HB3 hel
      generalize R.eraseIdx k = E at *
      go_wp2
      go_roundw
      case rel => exact ⟨E, d ++ [x], x, _, _, rfl, rfl, rfl, HA4.out, HST.out, HSO2.out, HB4.out⟩
      case measure =>
        show E.length < R.length
        have := HEL.out
        omega
    · obtain rfl : R = [] := List.eq_nil_of_length_eq_zero (by omega)
      obtain ⟨aR, cR, rfl, _, _⟩ := ha2.left.own
      have HE : Hid (d = V) := hns.done.eq HV.out (List.Perm.refl _)
      clear ha2 hns hso hbel hlen
      go_wp2
      go_ret2
      rw [← HE.out]
      exact LOut.yes HA.out.right HB.out
end Go.Proofs.Ytpjmblhfahbopaa
