/- The model: numbers in order, turned, swept. -/
import Derived.Test.YtpjmblhfahbopaaAApp
import Derived.Test.YtpjmblhfahbopaaASort
namespace Go.Proofs.Ytpjmblhfahbopaa
set_option maxRecDepth 100000
open Go Go.ChangeShapes Go.WideShapes Go.ChangeAt Go.RowKit
theorem rev_succ (l : List Int) (k : Nat) (h : k < l.length) : (l.drop (l.length - (k + 1))).reverse = (l.drop (l.length - k)).reverse ++ [l[l.length - (k + 1)]] := by
  have : l.drop (l.length - (k + 1)) = l[l.length - (k + 1)] :: l.drop (l.length - k) := by
    rw [List.drop_eq_getElem_cons (by omega)]
    congr 2
    omega
  rw [this, List.reverse_cons]
set_option maxHeartbeats 2000000 in
theorem turned_any (a : Option Addr) (cap : Nat) (l : List Int) (w : World) (hn : l.length ≤ 9000) (hZ : Is w.heap.size a l w) :
    Calls Try.prog 55 #[.slice a l.length cap] w fun e w' => ∃ v, e = .returned v ∧ AL w.heap.size v l.reverse w' ∧ Below w.heap.size w w' := by
  have HZ := hid hZ
  clear hZ
  go_enter Try.func55, Try.ntmps55
  go_wp2_with fail
  go_loopw [3, 4] (fun o i wr => ∃ (k : Nat) (o1 : Value), k ≤ l.length ∧ i = .int .i64 ((l.length : Int) - 1 - k) ∧ o = o1 ∧ AL w.heap.size o1 (l.drop (l.length - k)).reverse wr ∧ Below w.heap.size w wr) (fun _ i _ => (intOf i + 1).toNat)
  case atStart => exact ⟨0, _, Nat.zero_le _, by simp, rfl, by simp; exact AL.nil _ _, Below.refl _ _⟩
  case round =>
    obtain ⟨k, _, hk, rfl, rfl, hown, hbel⟩ := hrel
    have HOWN := hid hown
    have HBEL := hid hbel
    have hszr := hbel.size
    clear hown hbel
    by_cases hlt : k < l.length
    · have hd : decide ((0 : Int) ≤ (l.length : Int) - 1 - (k : Int)) = true := decide_eq_true (by omega)
      obtain ⟨b, off, rfl, hb, hc⟩ := HZ.out.cell (by omega)
      have x0 := (HBEL.out.cell (p := ⟨b, off + (l.length - (k + 1)), none⟩) hb).trans (hc (l.length - (k + 1)) (by omega))
      have HW := hid (rev_succ l k hlt)
      have hlen : (l.drop (l.length - k)).reverse.length = k := by simp; omega
      clear hc
      obtain ⟨j, hj⟩ : ∃ j : Nat, (l.length : Int) - 1 - (k : Int) = (j : Int) := ⟨l.length - (k + 1), by omega⟩
      have hj' : l.length - (k + 1) = j := by omega
      obtain ⟨v', w', r1, o1, g1, -⟩ := HOWN.out.push hszr (l[l.length - (k + 1)]'(by omega)) (by rw [hlen]; omega)
      rw [← HW.out] at o1
      have HO := hid o1
      have HB' : Hid (Below w.heap.size w w') := HBEL.out.trans g1
      clear o1 g1 HOWN HW
      generalize l[l.length - (k + 1)]'(by omega) = x at *
      have hjl : j < l.length := by omega
      rw [hj'] at x0
      rw [hj] at hd
      rw [hj]
      go_wp2_with (at_builtin; refine wpList_append_run rfl (.tmp 12) (.tmp 17) 23 rfl _ _ rfl rfl _ _ r1 ?_)
      go_roundw
      case rel => exact ⟨k + 1, _, by omega, by rw [show ((l.length : Int) - 1 - ((k + 1 : Nat) : Int)) = (j : Int) - 1 from by omega], rfl, HO.out, HB'.out⟩
      case measure => simp [intOf]
    · obtain rfl : k = l.length := by omega
      have hd : decide ((0 : Int) ≤ (l.length : Int) - 1 - (l.length : Int)) = false := decide_eq_false (by omega)
      rw [Nat.sub_self, List.drop_zero] at HOWN
      go_wp2
      go_ret
      exact ⟨u3, rfl, HOWN.out, HBEL.out⟩
theorem is_of {lo : Nat} {a : Option Addr} {n c : Nat} {l : List Int} {w : World} (h : AL lo (.slice a n c) l w) : Is w.heap.size a l w := by
  obtain ⟨b, c', e, ho, _⟩ := h.own
  injection e with e1 _ _
  subst e1
  exact ho.is
theorem sort_take (l : List Int) (k : Nat) (h : k < l.length) : sortN (l.take (k + 1)) = insN l[k] (sortN (l.take k)) := by rw [List.take_succ_eq_append_getElem h, sortN_snoc]
set_option maxHeartbeats 2000000 in
theorem sorted_any (a : Option Addr) (cap : Nat) (l : List Int) (w : World) (hn : l.length ≤ 9000) (hZ : Is w.heap.size a l w) :
    Calls Try.prog 48 #[.slice a l.length cap] w fun e w' => ∃ v, e = .returned v ∧ AL w.heap.size v (sortN l) w' ∧ Below w.heap.size w w' := by
  have HZ := hid hZ
  clear hZ
  go_enter Try.func48, Try.ntmps48
  go_wp2_with fail
  go_loopw [3, 10] (fun o i wr => ∃ (k : Nat) (o1 : Value), k ≤ l.length ∧ i = .int .i64 k ∧ o = o1 ∧ AL w.heap.size o1 (sortN (l.take k)) wr ∧ Below w.heap.size w wr) (fun _ i _ => l.length - (intOf i).toNat)
  case atStart => exact ⟨0, _, Nat.zero_le _, rfl, rfl, AL.nil _ _, Below.refl _ _⟩
  case round =>
    obtain ⟨k, _, hk, rfl, rfl, hown, hbel⟩ := hrel
    have HOWN := hid hown
    have HBEL := hid hbel
    have hszr := hbel.size
    clear hown hbel
    by_cases hlt : k < l.length
    · obtain ⟨b, off, rfl, hb, hc⟩ := HZ.out.cell (by omega)
      have x0 := (HBEL.out.cell (p := ⟨b, off + k, none⟩) hb).trans (hc k hlt)
      have HW := hid (sort_take l k hlt)
      have hlen : (sortN (l.take k)).length ≤ 9000 := by rw [sortN_len, List.length_take]; omega
      clear hc
      generalize l[k] = x at *
      generalize sortN (l.take k) = S at *
      rcases HOWN.out.form with ⟨rfl, rfl⟩ | ⟨R, cS, rfl, hcS, hR⟩
      · have HW' : Hid (sortN (l.take (k + 1)) = [x]) := HW.out
        go_wp2_with fail
        go_loop [6] (fun i => i = .int .i64 0) (fun _ => 0)
        case atStart => rfl
        case round =>
          obtain rfl := hrel
          have hW1 := boxB wr (.cells #[] 3)
          obtain ⟨v1, w1, r1, o1, g1, -⟩ := (AL.lit wr).app hW1.size none 0 [] (is_nil _ _ _) (by simp)
          have hg1 : Below wr.heap.size wr w1 := hW1.trans g1
          obtain ⟨v2, w2, r2, o2, g2, -⟩ := o1.push hg1.size x (by simp)
          have hg2 : Below wr.heap.size wr w2 := hg1.trans g2
          obtain ⟨v3, w3, r3, o3, g3, -⟩ := o2.app hg2.size none 0 [] (is_nil _ _ _) (by simp)
          have HB3 : Hid (Below w.heap.size w w3) := HBEL.out.trans ((hg2.trans g3).mono hszr)
          have HO3 : Hid (AL w.heap.size v3 (sortN (l.take (k + 1))) w3) := by
            show AL w.heap.size v3 (sortN (l.take (k + 1))) w3
            rw [HW'.out]
            exact o3.mono hszr
          clear o1 o2 o3 g1 g2 g3 hW1 hg1 hg2 HOWN HW HW'
          go_wp2_with (first | (at_builtin; refine wpList_append_run rfl (.tmp 28) (.tmp 31) 23 rfl _ _ rfl rfl _ _ r1 ?_) | (at_builtin; refine wpList_append_run rfl (.tmp 33) (.tmp 35) 23 rfl _ _ rfl rfl _ _ r2 ?_) | (at_builtin; refine wpList_append_run rfl (.tmp 37) (.tmp 40) 23 rfl _ _ rfl rfl _ _ r3 ?_))
          go_roundw
          case rel => exact ⟨k + 1, _, by omega, by go_num, rfl, HO3.out, HB3.out⟩
          case measure => simp [intOf]; omega
      · have HS := hid (is_of HOWN.out)
        have HL := hid (leadN_at x S)
        have HLE := hid (leadN_le x S)
        go_wp2_with fail
        go_loop [6] (fun i => ∃ j : Nat, j ≤ leadN x S ∧ i = .int .i64 j) (fun i => S.length - (intOf i).toNat)
        case atStart => exact ⟨0, Nat.zero_le _, rfl⟩
        case round =>
          obtain ⟨j, hj, rfl⟩ := hrel
          obtain ⟨h1, h2, h3⟩ := HL.out j hj
          have hle := HLE.out
          by_cases hjl : j < S.length
          · obtain ⟨R', off', e, hb', hc'⟩ := HS.out.cell (by omega)
            injection e with e; injection e with e1 e2 _
            subst e1; subst e2
            have y0 := hc' j hjl
            clear hc'
            by_cases hx : S[j] ≤ x
            · have hd : decide (S[j] ≤ x) = true := decide_eq_true hx
              have hj2 : j + 1 ≤ leadN x S := by
                rcases Nat.lt_or_ge j (leadN x S) with h | h
                · exact h
                · have := h3 (by omega) hjl; omega
              clear h1 h2 h3 hx
              generalize S[j] = y at *
              rw [Nat.zero_add] at y0
              go_wp2_with fail
              go_round
              · exact ⟨j + 1, hj2, by go_num⟩
              · simp [intOf]; omega
            · have hd : decide (S[j] ≤ x) = false := decide_eq_false hx
              have hj2 : j = leadN x S := by
                rcases Nat.lt_or_ge j (leadN x S) with h | h
                · obtain ⟨_, h5⟩ := h2 h; omega
                · omega
              clear h1 h2 h3 hx
              generalize S[j] = y at *
              rw [Nat.zero_add] at y0
              have HI : Hid (insN x S = S.take j ++ x :: S.drop j) := by show _ = _; rw [hj2]; exact insN_lead x S
              clear hj2 hj hle HL HLE
              have hT : (S.take j).length = j := by rw [List.length_take]; omega
              have hD : (S.drop j).length = S.length - j := by rw [List.length_drop]
              have hW1 := boxB wr (.cells #[] 3)
              obtain ⟨v1, w1, r1, o1, g1, -⟩ := (AL.lit wr).app hW1.size (some ⟨R, 0, none⟩) cS (S.take j) (((is_take HS.out j).below hW1).mono hW1.size) (by rw [List.length_take]; simp; omega)
              rw [hT] at r1
              have hg1 : Below wr.heap.size wr w1 := hW1.trans g1
              obtain ⟨v2, w2, r2, o2, g2, -⟩ := o1.push hg1.size x (by rw [List.nil_append, List.length_take]; omega)
              have hg2 : Below wr.heap.size wr w2 := hg1.trans g2
              obtain ⟨v3, w3, r3, o3, g3, -⟩ := o2.app hg2.size (some ⟨R, j, none⟩) (cS - j) (S.drop j) (((by have := is_drop HS.out j; rwa [Nat.zero_add] at this : Is wr.heap.size (some ⟨R, j, none⟩) (S.drop j) wr).below hg2).mono hg2.size) (by simp; omega)
              rw [hD] at r3
              have HB3 : Hid (Below w.heap.size w w3) := HBEL.out.trans ((hg2.trans g3).mono hszr)
              have HO3 : Hid (AL w.heap.size v3 (sortN (l.take (k + 1))) w3) := by
                show AL w.heap.size v3 (sortN (l.take (k + 1))) w3
                rw [HW.out, HI.out]
                have := o3.mono hszr
                rwa [List.nil_append, List.append_assoc] at this
              clear o1 o2 o3 g1 g2 g3 hW1 hg1 hg2 HOWN HW HI HS hT hD
              go_wp2_with (first | (at_builtin; refine wpList_append_run rfl (.tmp 28) (.tmp 31) 23 rfl _ _ rfl rfl _ _ r1 ?_) | (at_builtin; refine wpList_append_run rfl (.tmp 33) (.tmp 35) 23 rfl _ _ rfl rfl _ _ r2 ?_) | (at_builtin; refine wpList_append_run rfl (.tmp 37) (.tmp 40) 23 rfl _ _ rfl rfl _ _ r3 ?_))
              go_roundw
              case rel => exact ⟨k + 1, _, by omega, by go_num, rfl, HO3.out, HB3.out⟩
              case measure => simp [intOf]; omega
          · have hj2 : j = leadN x S := by omega
            obtain rfl : j = S.length := by omega
            have HI : Hid (insN x S = S ++ [x]) := by
              show _ = _
              rw [insN_lead x S, ← hj2, List.take_length, List.drop_length]
            clear hj2 hj hle HL HLE h1 h2 h3
            rcases Nat.lt_or_ge S.length cS with hcc | hcc
            · have hc0 : cS - S.length ≠ 0 := by omega
              have hc1 : cS ≠ S.length := by omega
              have hW1 := boxB wr (.cells #[] 3)
              obtain ⟨v1, w1, r1, o1, g1, -⟩ := (AL.lit wr).app hW1.size (some ⟨R, 0, none⟩) cS S ((HS.out.below hW1).mono hW1.size) (by simp; omega)
              have hg1 : Below wr.heap.size wr w1 := hW1.trans g1
              obtain ⟨v2, w2, r2, o2, g2, -⟩ := o1.push hg1.size x (by rw [List.nil_append]; omega)
              have hg2 : Below wr.heap.size wr w2 := hg1.trans g2
              obtain ⟨v3, w3, r3, o3, g3, -⟩ := o2.app hg2.size (some ⟨R, S.length, none⟩) (cS - S.length) [] (is_nil _ _ _) (by simp; omega)
              have HB3 : Hid (Below w.heap.size w w3) := HBEL.out.trans ((hg2.trans g3).mono hszr)
              have HO3 : Hid (AL w.heap.size v3 (sortN (l.take (k + 1))) w3) := by
                show AL w.heap.size v3 (sortN (l.take (k + 1))) w3
                rw [HW.out, HI.out]
                have := o3.mono hszr
                rwa [List.nil_append, List.append_nil] at this
              clear o1 o2 o3 g1 g2 g3 hW1 hg1 hg2 HOWN HW HI HS
              rw [List.length_nil] at r3
              go_wp2_with (first | (at_builtin; refine wpList_append_run rfl (.tmp 28) (.tmp 31) 23 rfl _ _ rfl rfl _ _ r1 ?_) | (at_builtin; refine wpList_append_run rfl (.tmp 33) (.tmp 35) 23 rfl _ _ rfl rfl _ _ r2 ?_) | (at_builtin; refine wpList_append_run rfl (.tmp 37) (.tmp 40) 23 rfl _ _ rfl rfl _ _ r3 ?_))
              go_roundw
              case rel => exact ⟨k + 1, _, by omega, by go_num, rfl, HO3.out, HB3.out⟩
              case measure => simp [intOf]; omega
            · obtain rfl : cS = S.length := by omega
              clear hcc hcS
              have hW1 := boxB wr (.cells #[] 3)
              obtain ⟨v1, w1, r1, o1, g1, -⟩ := (AL.lit wr).app hW1.size (some ⟨R, 0, none⟩) S.length S ((HS.out.below hW1).mono hW1.size) (by simp; omega)
              have hg1 : Below wr.heap.size wr w1 := hW1.trans g1
              obtain ⟨v2, w2, r2, o2, g2, -⟩ := o1.push hg1.size x (by rw [List.nil_append]; omega)
              have hg2 : Below wr.heap.size wr w2 := hg1.trans g2
              obtain ⟨v3, w3, r3, o3, g3, -⟩ := o2.app hg2.size (some ⟨R, 0, none⟩) 0 [] (is_nil _ _ _) (by simp; omega)
              have HB3 : Hid (Below w.heap.size w w3) := HBEL.out.trans ((hg2.trans g3).mono hszr)
              have HO3 : Hid (AL w.heap.size v3 (sortN (l.take (k + 1))) w3) := by
                show AL w.heap.size v3 (sortN (l.take (k + 1))) w3
                rw [HW.out, HI.out]
                have := o3.mono hszr
                rwa [List.nil_append, List.append_nil] at this
              clear o1 o2 o3 g1 g2 g3 hW1 hg1 hg2 HOWN HW HI HS
              rw [List.length_nil] at r3
              go_wp2_with (first | (at_builtin; refine wpList_append_run rfl (.tmp 28) (.tmp 31) 23 rfl _ _ rfl rfl _ _ r1 ?_) | (at_builtin; refine wpList_append_run rfl (.tmp 33) (.tmp 35) 23 rfl _ _ rfl rfl _ _ r2 ?_) | (at_builtin; refine wpList_append_run rfl (.tmp 37) (.tmp 40) 23 rfl _ _ rfl rfl _ _ r3 ?_))
              go_roundw
              case rel => exact ⟨k + 1, _, by omega, by go_num, rfl, HO3.out, HB3.out⟩
              case measure => simp [intOf]; omega
    · obtain rfl : k = l.length := by omega
      rw [List.take_length] at HOWN
      go_wp2
      go_ret
      exact ⟨u3, rfl, HOWN.out, HBEL.out⟩
end Go.Proofs.Ytpjmblhfahbopaa
