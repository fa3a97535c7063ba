/- Asks that are good: the program and the model. -/
import Derived.Test.YtpjmblhfahbopaaAOpen
namespace Go.Proofs.Ytpjmblhfahbopaa
set_option maxRecDepth 100000
open Go Go.ChangeShapes Go.WideShapes Go.ChangeAt Go.RowKit
/-- a track -/
def trkB (n : Int) : Bool := decide (0 ≤ n ∧ n ≤ 200)
/-- asks that are good -/
def goodA (l : List Int) : Bool := decide (l.length ≤ 8) && allIn l 0 200
/-- a start and asks that are good -/
def goodT (s : Int) (l : List Int) : Bool := trkB s && goodA l
theorem goodA_len {l : List Int} (h : goodA l = true) : l.length ≤ 8 := by
  unfold goodA at h; simp only [Bool.and_eq_true, decide_eq_true_eq] at h; exact h.1
theorem goodA_at {l : List Int} (h : goodA l = true) (j : Nat) (hj : j < l.length) : 0 ≤ l[j] ∧ l[j] ≤ 200 := by
  unfold goodA at h; simp only [Bool.and_eq_true, decide_eq_true_eq] at h; exact allIn_at l 0 200 h.2 j hj
theorem goodA_mem {l : List Int} (h : goodA l = true) (x : Int) (hx : x ∈ l) : 0 ≤ x ∧ x ≤ 200 := by
  obtain ⟨j, hj, rfl⟩ := List.getElem_of_mem hx; exact goodA_at h j hj
theorem goodA_of {l : List Int} (h : l.length ≤ 8) (g : ∀ x ∈ l, 0 ≤ x ∧ x ≤ 200) : goodA l = true := by
  unfold goodA; rw [decide_eq_true h, allIn_all l 0 200 fun j hj => g _ (List.getElem_mem hj)]; rfl
theorem trkB_iff {n : Int} : trkB n = true ↔ 0 ≤ n ∧ n ≤ 200 := by unfold trkB; simp
set_option maxHeartbeats 400000 in
theorem isTrack_any (n : Int) (w : World) : Calls Try.prog 28 #[.int .i64 n] w fun e w' => e = .returned (.bool (trkB n)) ∧ w' = w := by
  by_cases h0 : 0 ≤ n
  · by_cases h1 : n ≤ 200
    · have e : trkB n = true := trkB_iff.2 ⟨h0, h1⟩
      have d0 : decide (0 ≤ n) = true := decide_eq_true h0
      have d1 : decide (n ≤ 200) = true := decide_eq_true h1
      rw [e]
      go_enter Try.func28, Try.ntmps28
      go_wp2
      go_ret
      exact ⟨rfl, rfl⟩
    · have e : trkB n = false := by unfold trkB; exact decide_eq_false (by omega)
      have d0 : decide (0 ≤ n) = true := decide_eq_true h0
      have d1 : decide (n ≤ 200) = false := decide_eq_false h1
      rw [e]
      go_enter Try.func28, Try.ntmps28
      go_wp2
      go_ret
      exact ⟨rfl, rfl⟩
  · have e : trkB n = false := by unfold trkB; exact decide_eq_false (by omega)
    have d0 : decide (0 ≤ n) = false := decide_eq_false h0
    rw [e]
    go_enter Try.func28, Try.ntmps28
    go_wp2
    go_ret
    exact ⟨rfl, rfl⟩
set_option maxHeartbeats 1000000 in
theorem igoodA_any (a : Option Addr) (cap : Nat) (l : List Int) (w : World) (hn : l.length ≤ 1048576) (hZ : Is w.heap.size a l w) :
    Calls Try.prog 13 #[.slice a l.length cap] w fun e w' => e = .returned (.bool (goodA l)) ∧ w' = w := by
  have HZ : Hid (Is w.heap.size a l w) := hZ
  clear hZ
  by_cases h8 : l.length ≤ 8
  case neg =>
    have e : goodA l = false := by unfold goodA; rw [decide_eq_false h8]; rfl
    have d0 : decide ((8 : Int) < (l.length : Int)) = true := decide_eq_true (by omega)
    rw [e]
    go_enter Try.func13, Try.ntmps13
    go_wp2
    go_ret
    exact ⟨rfl, rfl⟩
  have d0 : decide ((8 : Int) < (l.length : Int)) = false := decide_eq_false (by omega)
  have EG : Hid (goodA l = allIn l 0 200) := by show goodA l = _; unfold goodA; rw [decide_eq_true h8]; rfl
  go_enter Try.func13, Try.ntmps13
  go_wp2
  go_loopw [10] (fun i wr => ∃ k : Nat, k ≤ l.length ∧ i = .int .i64 k ∧ (∀ j (hj : j < l.length), j < k → (0 : Int) ≤ l[j] ∧ l[j] ≤ 200) ∧ wr = w) (fun i _ => l.length - (intOf i).toNat)
  case atStart => exact ⟨0, Nat.zero_le _, rfl, (fun _ _ h => absurd h (Nat.not_lt_zero _)), rfl⟩
  case round =>
    obtain ⟨k, hk, rfl, hall, hwr⟩ := hrel
    subst hwr
    have HALL : Hid (∀ j (hj : j < l.length), j < k → (0 : Int) ≤ l[j] ∧ l[j] ≤ 200) := hall
    clear hall
    by_cases hlt : k < l.length
    · obtain ⟨b, off, rfl, hb, hc⟩ := HZ.out.cell (by omega)
      have x0 := hc k hlt
      clear hc
      by_cases hin : 0 ≤ l[k] ∧ l[k] ≤ 200
      · have HL : Hid (∀ j (hj : j < l.length), j < k + 1 → (0 : Int) ≤ l[j] ∧ l[j] ≤ 200) := fun j hj hjk => by
          by_cases e : j = k
          · subst e; exact hin
          · exact HALL.out j hj (by omega)
        have et : Hid (trkB l[k] = true) := trkB_iff.2 hin
        clear hin
        generalize l[k] = x at *
        go_wp2_with fail
        refine (isTrack_any _ _).mono ?_
        rintro e w2 ⟨rfl, hw2⟩
        rw [hw2, et.out]
        clear hw2
        go_wp2
        go_roundw
        case rel => exact ⟨k + 1, by omega, by go_num, HL.out, by trivial⟩
        case measure => simp [intOf]; omega
      · have HV : Hid (allIn l 0 200 = false) := allIn_bad l 0 200 k hlt hin
        have et : Hid (trkB l[k] = false) := by show trkB l[k] = false; unfold trkB; exact decide_eq_false hin
        clear hin
        generalize l[k] = x at *
        go_wp2_with fail
        refine (isTrack_any _ _).mono ?_
        rintro e w2 ⟨rfl, hw2⟩
        rw [hw2, et.out]
        clear hw2
        go_wp2
        go_ret
        exact ⟨ret_b2 (EG.out.trans HV.out).symm, rfl⟩
    · obtain rfl : k = l.length := by omega
      have HV : Hid (allIn l 0 200 = true) := allIn_all l 0 200 fun j hj => HALL.out j hj hj
      go_wp2
      go_ret
      exact ⟨ret_b2 (EG.out.trans HV.out).symm, rfl⟩
set_option maxHeartbeats 1000000 in
theorem sgoodA_any (a : Option Addr) (cap : Nat) (l : List Int) (w : World) (hn : l.length ≤ 1048576) (hZ : Is w.heap.size a l w) :
    Calls Try.prog 14 #[.slice a l.length cap] w fun e w' => e = .returned (.bool (goodA l)) ∧ w' = w := by
  have HZ : Hid (Is w.heap.size a l w) := hZ
  clear hZ
  by_cases h8 : l.length ≤ 8
  case neg =>
    have e : goodA l = false := by unfold goodA; rw [decide_eq_false h8]; rfl
    have d0 : decide ((l.length : Int) ≤ 8) = false := decide_eq_false (by omega)
    rw [e]
    go_enter Try.func14, Try.ntmps14
    go_wp2
    go_ret
    exact ⟨rfl, rfl⟩
  have d0 : decide ((l.length : Int) ≤ 8) = true := decide_eq_true (by omega)
  have EG : Hid (goodA l = allIn l 0 200) := by show goodA l = _; unfold goodA; rw [decide_eq_true h8]; rfl
  go_enter Try.func14, Try.ntmps14
  go_wp2_with fail
  refine (l1All_any a cap l 0 200 w hn HZ.out).mono ?_
  rintro e w2 ⟨rfl, hw2⟩
  rw [hw2]
  clear hw2
  generalize allIn l 0 200 = g at *
  go_wp2
  go_ret
  exact ⟨ret_b2 EG.out.symm, rfl⟩
set_option maxHeartbeats 400000 in
theorem l8Track_any (n : Int) (w : World) : Calls Try.prog 54 #[.int .i64 n] w fun e w' => e = .returned (.bool (trkB n)) ∧ w' = w := by
  by_cases h : 0 ≤ n ∧ n ≤ 200
  · rw [trkB_iff.2 h]
    go_enter Try.func54, Try.ntmps54
    go_wp2_with fail
    refine (l1In_yes _ _ _ _ h.1 h.2).mono ?_
    rintro e w2 ⟨rfl, hw2⟩
    rw [hw2]
    go_wp2
    go_ret
    exact ⟨rfl, rfl⟩
  · have e : trkB n = false := by unfold trkB; exact decide_eq_false h
    rw [e]
    go_enter Try.func54, Try.ntmps54
    go_wp2_with fail
    refine (l1In_no _ _ _ _ (by omega)).mono ?_
    rintro e w2 ⟨rfl, hw2⟩
    rw [hw2]
    go_wp2
    go_ret
    exact ⟨rfl, rfl⟩
set_option maxHeartbeats 400000 in
theorem l8Good_any (s : Int) (a : Option Addr) (cap : Nat) (l : List Int) (w : World) (hn : l.length ≤ 1048576) (hZ : Is w.heap.size a l w) :
    Calls Try.prog 33 #[.int .i64 s, .slice a l.length cap] w fun e w' => e = .returned (.bool (goodT s l)) ∧ w' = w := by
  have HZ : Hid (Is w.heap.size a l w) := hZ
  clear hZ
  have EG : Hid (goodT s l = (trkB s && goodA l)) := rfl
  go_enter Try.func33, Try.ntmps33
  go_wp2_with fail
  refine (l8Track_any _ _).mono ?_
  rintro e w2 ⟨rfl, hw2⟩
  rw [hw2]
  clear hw2
  cases ht : trkB s
  · have E2 : Hid (goodT s l = false) := by show _ = _; rw [EG.out, ht]; rfl
    go_wp2
    go_ret
    exact ⟨ret_b2 E2.out.symm, rfl⟩
  · have E2 : Hid (goodT s l = goodA l) := by show _ = _; rw [EG.out, ht]; rfl
    clear EG
    go_wp2_with fail
    refine (sgoodA_any a cap l w hn HZ.out).mono ?_
    rintro e w3 ⟨rfl, hw3⟩
    rw [hw3]
    clear hw3
    generalize goodA l = g at *
    go_wp2
    go_ret
    exact ⟨ret_b2 E2.out.symm, rfl⟩
end Go.Proofs.Ytpjmblhfahbopaa
