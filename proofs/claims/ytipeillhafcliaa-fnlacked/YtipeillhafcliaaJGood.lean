/- Sets that are good, terms that are so: the program and the model. -/
import Derived.Test.YtipeillhafcliaaAApp
namespace Go.Proofs.Ytipeillhafcliaa
set_option maxRecDepth 100000
open Go Go.ChangeShapes Go.WideShapes Go.ChangeAt Go.RowKit
/-- rising from above lo on, none above 60 -/
def upB (lo : Int) : List Int → Bool
  | [] => true
  | x :: l => (decide (lo < x) && decide (x ≤ 60)) && upB x l
/-- a set that is good -/
def goodS (l : List Int) : Bool := decide (l.length ≤ 20) && upB 0 l
/-- the number ahead of number k -/
def aheadI (l : List Int) : Nat → Int
  | 0 => 0
  | k + 1 => l.getD k 0
theorem aheadI_succ (l : List Int) (k : Nat) (h : k < l.length) : aheadI l (k + 1) = l[k] := by
  show l.getD k 0 = _
  rw [List.getD_eq_getElem?_getD, List.getElem?_eq_getElem h]; rfl
theorem upB_step (l : List Int) (k : Nat) (h : k < l.length) : upB (aheadI l k) (l.drop k) = ((decide (aheadI l k < l[k]) && decide (l[k] ≤ 60)) && upB (aheadI l (k + 1)) (l.drop (k + 1))) := by
  rw [aheadI_succ l k h, List.drop_eq_getElem_cons h]; rfl
theorem upB_end (l : List Int) (a : Int) : upB a (l.drop l.length) = true := by rw [List.drop_length]; rfl
theorem upB_yes {l : List Int} {k : Nat} (h : k < l.length) (h1 : aheadI l k < l[k]) (h2 : l[k] ≤ 60) : upB (aheadI l (k + 1)) (l.drop (k + 1)) = upB (aheadI l k) (l.drop k) := by
  rw [upB_step l k h, decide_eq_true h1, decide_eq_true h2]; rfl
theorem upB_no {l : List Int} {k : Nat} (h : k < l.length) (h1 : ¬ (aheadI l k < l[k] ∧ l[k] ≤ 60)) : upB (aheadI l k) (l.drop k) = false := by
  rw [upB_step l k h]
  by_cases a : aheadI l k < l[k]
  · rw [decide_eq_true a, decide_eq_false (fun c => h1 ⟨a, c⟩)]; rfl
  · rw [decide_eq_false a]; rfl
set_option maxHeartbeats 1000000 in
theorem igoodS_any (a : Option Addr) (cap : Nat) (l : List Int) (w : World) (hn : l.length ≤ 1048576) (hZ : Is w.heap.size a l w) :
    Calls Try.prog 12 #[.slice a l.length cap] w fun e w' => e = .returned (.bool (goodS l)) ∧ w' = w := by
  have HZ : Hid (Is w.heap.size a l w) := hZ
  clear hZ
  by_cases h8 : l.length ≤ 20
  case neg =>
    have e : goodS l = false := by unfold goodS; rw [decide_eq_false h8]; rfl
    have d0 : decide ((20 : Int) < (l.length : Int)) = true := decide_eq_true (by omega)
    rw [e]
    go_enter Try.func12, Try.ntmps12
    go_wp2
    go_ret
    exact ⟨rfl, rfl⟩
  have d0 : decide ((20 : Int) < (l.length : Int)) = false := decide_eq_false (by omega)
  have EG : Hid (goodS l = upB 0 l) := by show goodS l = _; unfold goodS; rw [decide_eq_true h8]; rfl
  go_enter Try.func12, Try.ntmps12
  go_wp2
  go_loopw [3, 11] (fun t i wr => ∃ k : Nat, k ≤ l.length ∧ i = .int .i64 k ∧ t = .int .i64 (aheadI l k) ∧ upB (aheadI l k) (l.drop k) = upB 0 l ∧ wr = w) (fun _ i _ => l.length - (intOf i).toNat)
  case atStart => exact ⟨0, Nat.zero_le _, rfl, rfl, rfl, rfl⟩
  case round =>
    obtain ⟨k, hk, rfl, rfl, hup, hwr⟩ := hrel
    subst hwr
    have HUP := hid hup
    clear hup
    by_cases hlt : k < l.length
    · obtain ⟨b, off, rfl, hb, hc⟩ := HZ.out.cell (by omega)
      have x0 := hc k hlt
      clear hc
      by_cases hin : aheadI l k < l[k] ∧ l[k] ≤ 60
      · have HL : Hid (upB (aheadI l (k + 1)) (l.drop (k + 1)) = upB 0 l) := (upB_yes hlt hin.1 hin.2).trans HUP.out
        have HA := hid (aheadI_succ l k hlt)
        have d1 : decide (l[k] ≤ aheadI l k) = false := decide_eq_false (by omega)
        have d2 : decide ((60 : Int) < l[k]) = false := decide_eq_false (by omega)
        clear hin HUP
        generalize aheadI l k = ah at *
        generalize l[k] = x at *
        go_wp2
        go_roundw
        case rel => exact ⟨k + 1, by omega, by go_num, by rw [HA.out], HL.out, by trivial⟩
        case measure => simp [intOf]; omega
      · have HV : Hid (upB 0 l = false) := HUP.out.symm.trans (upB_no hlt hin)
        by_cases h1 : l[k] ≤ aheadI l k
        · have d1 : decide (l[k] ≤ aheadI l k) = true := decide_eq_true h1
          clear hin h1 HUP
          generalize aheadI l k = ah at *
          generalize l[k] = x at *
          go_wp2
          go_ret
          exact ⟨ret_b2 (EG.out.trans HV.out).symm, rfl⟩
        · have d1 : decide (l[k] ≤ aheadI l k) = false := decide_eq_false h1
          have d2 : decide ((60 : Int) < l[k]) = true := decide_eq_true (by omega)
          clear hin h1 HUP
          generalize aheadI l k = ah at *
          generalize l[k] = x at *
          go_wp2
          go_ret
          exact ⟨ret_b2 (EG.out.trans HV.out).symm, rfl⟩
    · obtain rfl : k = l.length := by omega
      have HV : Hid (upB 0 l = true) := HUP.out.symm.trans (upB_end l _)
      clear HUP
      generalize aheadI l l.length = ah at *
      go_wp2
      go_ret
      exact ⟨ret_b2 (EG.out.trans HV.out).symm, rfl⟩
set_option maxHeartbeats 2000000 in
theorem rising_any (a : Option Addr) (cap : Nat) (l : List Int) (w : World) (hn : l.length ≤ 1048576) (hZ : Is w.heap.size a l w) :
    Calls Try.prog 53 #[.slice a l.length cap, .int .i64 1, .int .i64 60] w fun e w' => e = .returned (.bool (upB 0 l)) ∧ w' = w := by
  have HZ : Hid (Is w.heap.size a l w) := hZ
  clear hZ
  go_enter Try.func53, Try.ntmps53
  go_wp2
  go_loopw [11] (fun i wr => ∃ k : Nat, k ≤ l.length ∧ i = .int .i64 k ∧ 0 ≤ aheadI l k ∧ upB (aheadI l k) (l.drop k) = upB 0 l ∧ wr = w) (fun i _ => l.length - (intOf i).toNat)
  case atStart => exact ⟨0, Nat.zero_le _, rfl, Int.le_refl _, rfl, rfl⟩
  case round =>
    obtain ⟨k, hk, rfl, h0, hup, hwr⟩ := hrel
    subst hwr
    have HUP := hid hup
    clear hup
    by_cases hlt : k < l.length
    · obtain ⟨b, off, rfl, hb, hc⟩ := HZ.out.cell (by omega)
      have x0 := hc k hlt
      have HA := hid (aheadI_succ l k hlt)
      by_cases hin : 1 ≤ l[k] ∧ l[k] ≤ 60
      · obtain ⟨i0, i1⟩ := hin
        rcases Nat.eq_zero_or_pos k with rfl | hkp
        · have HL : Hid (upB (aheadI l (0 + 1)) (l.drop (0 + 1)) = upB 0 l) := (upB_yes hlt (by show (0 : Int) < _; omega) i1).trans HUP.out
          clear hc HUP h0
          generalize l[0] = x at *
          rw [Nat.add_zero] at x0
          go_wp2_with fail
          refine (l1In_yes _ _ _ _ i0 i1).mono ?_
          rintro e w2 ⟨rfl, hw2⟩
          rw [hw2]
          clear hw2
          go_wp2
          go_roundw
          case rel => exact ⟨0 + 1, by omega, by go_num, by rw [HA.out]; omega, HL.out, by trivial⟩
          case measure => simp [intOf]; omega
        · obtain ⟨j, rfl⟩ : ∃ j, k = j + 1 := ⟨k - 1, by omega⟩
          have hja : aheadI l (j + 1) = l[j] := aheadI_succ l j (by omega)
          have x1 := hc j (by omega)
          have hjw : IntKind.i64.wrap (((j + 1 : Nat) : Int) - 1) = (j : Int) := by rw [IntKind.wrap_i64]; omega
          have hdk : decide ((0 : Int) < ((j + 1 : Nat) : Int)) = true := decide_eq_true (by omega)
          clear hc
          by_cases hr : l[j] < l[j + 1]
          · have HL : Hid (upB (aheadI l (j + 1 + 1)) (l.drop (j + 1 + 1)) = upB 0 l) := (upB_yes hlt (by rw [hja]; exact hr) i1).trans HUP.out
            have d1 : decide (l[j + 1] ≤ l[j]) = false := decide_eq_false (by omega)
            clear HUP hr h0 hja
            generalize l[j + 1] = x at *
            generalize l[j] = y at *
            go_wp2_with fail
            refine (l1In_yes _ _ _ _ i0 i1).mono ?_
            rintro e w2 ⟨rfl, hw2⟩
            rw [hw2]
            clear hw2
            go_wp2
            go_roundw
            case rel => exact ⟨j + 1 + 1, by omega, by go_num, by rw [HA.out]; omega, HL.out, by trivial⟩
            case measure => simp [intOf]; omega
          · have HV : Hid (upB 0 l = false) := HUP.out.symm.trans (upB_no hlt (fun c => hr (by rw [← hja]; exact c.1)))
            have d1 : decide (l[j + 1] ≤ l[j]) = true := decide_eq_true (by omega)
            clear HUP hr h0 hja HA
            generalize l[j + 1] = x at *
            generalize l[j] = y at *
            go_wp2_with fail
            refine (l1In_yes _ _ _ _ i0 i1).mono ?_
            rintro e w2 ⟨rfl, hw2⟩
            rw [hw2]
            clear hw2
            go_wp2
            go_ret
            exact ⟨ret_b2 HV.out.symm, rfl⟩
      · have HV : Hid (upB 0 l = false) := HUP.out.symm.trans (upB_no hlt (fun c => hin ⟨by omega, c.2⟩))
        have h2 : l[k] < 1 ∨ 60 < l[k] := by omega
        clear hin hc HUP HA h0
        generalize l[k] = x at *
        go_wp2_with fail
        refine (l1In_no _ _ _ _ h2).mono ?_
        rintro e w2 ⟨rfl, hw2⟩
        rw [hw2]
        clear hw2
        go_wp2
        go_ret
        exact ⟨ret_b2 HV.out.symm, rfl⟩
    · obtain rfl : k = l.length := by omega
      have HV : Hid (upB 0 l = true) := HUP.out.symm.trans (upB_end l _)
      clear HUP h0
      go_wp2
      go_ret
      exact ⟨ret_b2 HV.out.symm, rfl⟩
set_option maxHeartbeats 1000000 in
theorem sgoodS_any (a : Option Addr) (cap : Nat) (l : List Int) (w : World) (hn : l.length ≤ 1048576) (hZ : Is w.heap.size a l w) :
    Calls Try.prog 32 #[.slice a l.length cap] w fun e w' => e = .returned (.bool (goodS l)) ∧ w' = w := by
  have HZ : Hid (Is w.heap.size a l w) := hZ
  clear hZ
  by_cases h8 : l.length ≤ 20
  case neg =>
    have e : goodS l = false := by unfold goodS; rw [decide_eq_false h8]; rfl
    have d0 : decide ((l.length : Int) ≤ 20) = false := decide_eq_false (by omega)
    rw [e]
    go_enter Try.func32, Try.ntmps32
    go_wp2
    go_ret
    exact ⟨rfl, rfl⟩
  have d0 : decide ((l.length : Int) ≤ 20) = true := decide_eq_true (by omega)
  have EG : Hid (goodS l = upB 0 l) := by show goodS l = _; unfold goodS; rw [decide_eq_true h8]; rfl
  go_enter Try.func32, Try.ntmps32
  go_wp2_with fail
  refine (rising_any a cap l w hn HZ.out).mono ?_
  rintro e w2 ⟨rfl, hw2⟩
  rw [hw2]
  clear hw2
  generalize upB 0 l = g at *
  go_wp2
  go_ret
  exact ⟨ret_b2 EG.out.symm, rfl⟩
/-- how many sums may be asked for -/
def uptoB (n : Int) : Bool := decide (0 ≤ n ∧ n ≤ 4)
theorem uptoB_iff {n : Int} : uptoB n = true ↔ 0 ≤ n ∧ n ≤ 4 := by unfold uptoB; simp
/-- a term that is not too great -/
def termB (n : Int) : Bool := decide (-1000000000 ≤ n ∧ n ≤ 1000000000)
theorem termB_iff {n : Int} : termB n = true ↔ -1000000000 ≤ n ∧ n ≤ 1000000000 := by unfold termB; simp
set_option maxHeartbeats 400000 in
theorem isUpto_any (n : Int) (w : World) : Calls Try.prog 31 #[.int .i64 n] w fun e w' => e = .returned (.bool (uptoB n)) ∧ w' = w := by
  by_cases h0 : 0 ≤ n
  · by_cases h1 : n ≤ 4
    · have e : uptoB n = true := uptoB_iff.2 ⟨h0, h1⟩
      have d0 : decide (0 ≤ n) = true := decide_eq_true h0
      have d1 : decide (n ≤ 4) = true := decide_eq_true h1
      rw [e]
      go_enter Try.func31, Try.ntmps31
      go_wp2
      go_ret
      exact ⟨rfl, rfl⟩
    · have e : uptoB n = false := by unfold uptoB; exact decide_eq_false (by omega)
      have d0 : decide (0 ≤ n) = true := decide_eq_true h0
      have d1 : decide (n ≤ 4) = false := decide_eq_false h1
      rw [e]
      go_enter Try.func31, Try.ntmps31
      go_wp2
      go_ret
      exact ⟨rfl, rfl⟩
  · have e : uptoB n = false := by unfold uptoB; exact decide_eq_false (by omega)
    have d0 : decide (0 ≤ n) = false := decide_eq_false h0
    rw [e]
    go_enter Try.func31, Try.ntmps31
    go_wp2
    go_ret
    exact ⟨rfl, rfl⟩
set_option maxHeartbeats 400000 in
theorem isTerm_any (n : Int) (w : World) : Calls Try.prog 43 #[.int .i64 n] w fun e w' => e = .returned (.bool (termB n)) ∧ w' = w := by
  by_cases h0 : -1000000000 ≤ n
  · by_cases h1 : n ≤ 1000000000
    · have e : termB n = true := termB_iff.2 ⟨h0, h1⟩
      have d0 : decide (-1000000000 ≤ n) = true := decide_eq_true h0
      have d1 : decide (n ≤ 1000000000) = true := decide_eq_true h1
      rw [e]
      go_enter Try.func43, Try.ntmps43
      go_wp2
      go_ret
      exact ⟨rfl, rfl⟩
    · have e : termB n = false := by unfold termB; exact decide_eq_false (by omega)
      have d0 : decide (-1000000000 ≤ n) = true := decide_eq_true h0
      have d1 : decide (n ≤ 1000000000) = false := decide_eq_false h1
      rw [e]
      go_enter Try.func43, Try.ntmps43
      go_wp2
      go_ret
      exact ⟨rfl, rfl⟩
  · have e : termB n = false := by unfold termB; exact decide_eq_false (by omega)
    have d0 : decide (-1000000000 ≤ n) = false := decide_eq_false h0
    rw [e]
    go_enter Try.func43, Try.ntmps43
    go_wp2
    go_ret
    exact ⟨rfl, rfl⟩
set_option maxHeartbeats 400000 in
theorem l12Upto_any (n : Int) (w : World) : Calls Try.prog 33 #[.int .i64 n] w fun e w' => e = .returned (.bool (uptoB n)) ∧ w' = w := by
  by_cases h : 0 ≤ n ∧ n ≤ 4
  · rw [uptoB_iff.2 h]
    go_enter Try.func33, Try.ntmps33
    go_wp2_with fail
    refine (l1In_yes _ _ _ _ h.1 h.2).mono ?_
    rintro e w2 ⟨rfl, hw2⟩
    rw [hw2]
    go_wp2
    go_ret
    exact ⟨rfl, rfl⟩
  · have e : uptoB n = false := by unfold uptoB; exact decide_eq_false h
    rw [e]
    go_enter Try.func33, Try.ntmps33
    go_wp2_with fail
    refine (l1In_no _ _ _ _ (by omega)).mono ?_
    rintro e w2 ⟨rfl, hw2⟩
    rw [hw2]
    go_wp2
    go_ret
    exact ⟨rfl, rfl⟩
/-- terms that are good -/
def goodN (l : List Int) : Bool := decide (l.length ≤ 4) && allIn l (-1000000000) 1000000000
theorem goodN_len {l : List Int} (h : goodN l = true) : l.length ≤ 4 := by
  unfold goodN at h; simp only [Bool.and_eq_true, decide_eq_true_eq] at h; exact h.1
theorem goodN_at {l : List Int} (h : goodN l = true) (j : Nat) (hj : j < l.length) : -1000000000 ≤ l[j] ∧ l[j] ≤ 1000000000 := by
  unfold goodN at h; simp only [Bool.and_eq_true, decide_eq_true_eq] at h; exact allIn_at l _ _ h.2 j hj
theorem goodN_of {l : List Int} (h : l.length ≤ 4) (g : ∀ x ∈ l, -1000000000 ≤ x ∧ x ≤ 1000000000) : goodN l = true := by
  unfold goodN; rw [decide_eq_true h, allIn_all l _ _ fun j hj => g _ (List.getElem_mem hj)]; rfl
set_option maxHeartbeats 1000000 in
theorem goodTerms_any (a : Option Addr) (cap : Nat) (l : List Int) (w : World) (hn : l.length ≤ 1048576) (hZ : Is w.heap.size a l w) :
    Calls Try.prog 41 #[.slice a l.length cap] w fun e w' => e = .returned (.bool (goodN l)) ∧ w' = w := by
  have HZ : Hid (Is w.heap.size a l w) := hZ
  clear hZ
  go_enter Try.func41, Try.ntmps41
  go_wp2
  go_loopw [7] (fun i wr => ∃ k : Nat, k ≤ l.length ∧ i = .int .i64 k ∧ (∀ j (hj : j < l.length), j < k → (-1000000000 : Int) ≤ l[j] ∧ l[j] ≤ 1000000000) ∧ wr = w) (fun i _ => l.length - (intOf i).toNat)
  case atStart => exact ⟨0, Nat.zero_le _, rfl, (fun _ _ h => absurd h (Nat.not_lt_zero _)), rfl⟩
  case round =>
    obtain ⟨k, hk, rfl, hall, hwr⟩ := hrel
    subst hwr
    have HALL : Hid (∀ j (hj : j < l.length), j < k → (-1000000000 : Int) ≤ l[j] ∧ l[j] ≤ 1000000000) := hall
    clear hall
    by_cases hlt : k < l.length
    · obtain ⟨b, off, rfl, hb, hc⟩ := HZ.out.cell (by omega)
      have x0 := hc k hlt
      clear hc
      by_cases hin : -1000000000 ≤ l[k] ∧ l[k] ≤ 1000000000
      · have HL : Hid (∀ j (hj : j < l.length), j < k + 1 → (-1000000000 : Int) ≤ l[j] ∧ l[j] ≤ 1000000000) := fun j hj hjk => by
          by_cases e : j = k
          · subst e; exact hin
          · exact HALL.out j hj (by omega)
        have et : Hid (termB l[k] = true) := termB_iff.2 hin
        clear hin
        generalize l[k] = x at *
        go_wp2_with fail
        refine (isTerm_any _ _).mono ?_
        rintro e w2 ⟨rfl, hw2⟩
        rw [hw2, et.out]
        clear hw2
        go_wp2
        go_roundw
        case rel => exact ⟨k + 1, by omega, by go_num, HL.out, by trivial⟩
        case measure => simp [intOf]; omega
      · have HV : Hid (goodN l = false) := by
          show goodN l = false
          unfold goodN
          rw [allIn_bad l _ _ k hlt hin, Bool.and_false]
        have et : Hid (termB l[k] = false) := by show termB l[k] = false; unfold termB; exact decide_eq_false hin
        clear hin
        generalize l[k] = x at *
        go_wp2_with fail
        refine (isTerm_any _ _).mono ?_
        rintro e w2 ⟨rfl, hw2⟩
        rw [hw2, et.out]
        clear hw2
        go_wp2
        go_ret
        exact ⟨ret_b2 HV.out.symm, rfl⟩
    · obtain rfl : k = l.length := by omega
      have HV : Hid (uptoB (l.length : Int) = goodN l) := by
        show _ = _
        unfold goodN uptoB
        rw [allIn_all l _ _ fun j hj => HALL.out j hj hj, Bool.and_true]
        exact decide_eq_decide.2 (by omega)
      go_wp2_with fail
      refine (isUpto_any _ _).mono ?_
      rintro e w2 ⟨rfl, hw2⟩
      rw [hw2]
      clear hw2
      generalize uptoB (l.length : Int) = g at *
      go_wp2
      go_ret
      exact ⟨ret_b2 HV.out, rfl⟩
set_option maxHeartbeats 1000000 in
theorem l12Numbers_any (a : Option Addr) (cap : Nat) (l : List Int) (w : World) (hn : l.length ≤ 1048576) (hZ : Is w.heap.size a l w) :
    Calls Try.prog 38 #[.slice a l.length cap] w fun e w' => e = .returned (.bool (goodN l)) ∧ w' = w := by
  have HZ : Hid (Is w.heap.size a l w) := hZ
  clear hZ
  by_cases h8 : l.length ≤ 4
  case neg =>
    have e : goodN l = false := by unfold goodN; rw [decide_eq_false h8]; rfl
    have d0 : decide ((l.length : Int) ≤ 4) = false := decide_eq_false (by omega)
    rw [e]
    go_enter Try.func38, Try.ntmps38
    go_wp2
    go_ret
    exact ⟨rfl, rfl⟩
  have d0 : decide ((l.length : Int) ≤ 4) = true := decide_eq_true (by omega)
  have EG : Hid (goodN l = allIn l (-1000000000) 1000000000) := by show goodN l = _; unfold goodN; rw [decide_eq_true h8]; rfl
  go_enter Try.func38, Try.ntmps38
  go_wp2_with fail
  refine (l1All_any a cap l (-1000000000) 1000000000 w hn HZ.out).mono ?_
  rintro e w2 ⟨rfl, hw2⟩
  rw [hw2]
  clear hw2
  generalize allIn l (-1000000000) 1000000000 = g at *
  go_wp2
  go_ret
  exact ⟨ret_b2 EG.out.symm, rfl⟩
end Go.Proofs.Ytipeillhafcliaa
