/- Votes that rise; majorities: the program and the model. -/
import Derived.Test.YtikmkkklgdkpaaaAApp
namespace Go.Proofs.Ytikmkkklgdkpaaa
set_option maxRecDepth 100000
open Go Go.ChangeShapes Go.WideShapes Go.ChangeAt Go.RowKit
/-- rising from above lo on, none above h -/
def upV (h : Int) (lo : Int) : List Int → Bool
  | [] => true
  | x :: l => (decide (lo < x) && decide (x ≤ h)) && upV h x l
/-- votes of so many judges -/
def votesV (m : Int) (l : List Int) : Bool := upV (m - 1) (-1) l
/-- the number ahead of number k -/
def aheadV (l : List Int) : Nat → Int
  | 0 => -1
  | k + 1 => l.getD k 0
theorem aheadV_succ (l : List Int) (k : Nat) (h : k < l.length) : aheadV l (k + 1) = l[k] := by
  show l.getD k 0 = _
  rw [List.getD_eq_getElem?_getD, List.getElem?_eq_getElem h]; rfl
theorem upV_step (b : Int) (l : List Int) (k : Nat) (h : k < l.length) : upV b (aheadV l k) (l.drop k) = ((decide (aheadV l k < l[k]) && decide (l[k] ≤ b)) && upV b (aheadV l (k + 1)) (l.drop (k + 1))) := by
  rw [aheadV_succ l k h, List.drop_eq_getElem_cons h]; rfl
theorem upV_end (b : Int) (l : List Int) (a : Int) : upV b a (l.drop l.length) = true := by rw [List.drop_length]; rfl
theorem upV_yes {b : Int} {l : List Int} {k : Nat} (h : k < l.length) (h1 : aheadV l k < l[k]) (h2 : l[k] ≤ b) : upV b (aheadV l (k + 1)) (l.drop (k + 1)) = upV b (aheadV l k) (l.drop k) := by
  rw [upV_step b l k h, decide_eq_true h1, decide_eq_true h2]; rfl
theorem upV_no {b : Int} {l : List Int} {k : Nat} (h : k < l.length) (h1 : ¬ (aheadV l k < l[k] ∧ l[k] ≤ b)) : upV b (aheadV l k) (l.drop k) = false := by
  rw [upV_step b l k h]
  by_cases a : aheadV l k < l[k]
  · rw [decide_eq_true a, decide_eq_false (fun c => h1 ⟨a, c⟩)]; rfl
  · rw [decide_eq_false a]; rfl
set_option maxHeartbeats 2000000 in
theorem risingV_any (a : Option Addr) (cap : Nat) (l : List Int) (h : Int) (w : World) (hn : l.length ≤ 1048576) (hZ : Is w.heap.size a l w) :
    Calls Try.prog 52 #[.slice a l.length cap, .int .i64 0, .int .i64 h] w fun e w' => e = .returned (.bool (upV h (-1) l)) ∧ w' = w := by
  have HZ : Hid (Is w.heap.size a l w) := hZ
  clear hZ
  go_enter Try.func52, Try.ntmps52
  go_wp2
  go_loopw [11] (fun i wr => ∃ k : Nat, k ≤ l.length ∧ i = .int .i64 k ∧ -1 ≤ aheadV l k ∧ upV h (aheadV l k) (l.drop k) = upV h (-1) l ∧ wr = w) (fun i _ => l.length - (intOf i).toNat)
  case atStart => exact ⟨0, Nat.zero_le _, rfl, Int.le_refl _, rfl, rfl⟩
  case round =>
    obtain ⟨k, hk, rfl, h0, hup, hwr⟩ := hrel
    subst hwr
    have HUP := hid hup
    clear hup
    by_cases hlt : k < l.length
    · obtain ⟨b, off, rfl, hb, hc⟩ := HZ.out.cell (by omega)
      have x0 := hc k hlt
      have HA := hid (aheadV_succ l k hlt)
      by_cases hin : 0 ≤ l[k] ∧ l[k] ≤ h
      · obtain ⟨i0, i1⟩ := hin
        rcases Nat.eq_zero_or_pos k with rfl | hkp
        · have HL : Hid (upV h (aheadV l (0 + 1)) (l.drop (0 + 1)) = upV h (-1) l) := (upV_yes hlt (by show (-1 : Int) < _; omega) i1).trans HUP.out
          clear hc HUP h0
          generalize l[0] = x at *
          rw [Nat.add_zero] at x0
          go_wp2_with fail
          refine (l1In_yes _ _ _ _ i0 i1).mono ?_
          rintro e w2 ⟨rfl, hw2⟩
          rw [hw2]
          clear hw2
          go_wp2
          go_roundw
          case rel => exact ⟨0 + 1, by omega, by go_num, by rw [HA.out]; omega, HL.out, by trivial⟩
          case measure => simp [intOf]; omega
        · obtain ⟨j, rfl⟩ : ∃ j, k = j + 1 := ⟨k - 1, by omega⟩
          have hja : aheadV l (j + 1) = l[j] := aheadV_succ l j (by omega)
          have x1 := hc j (by omega)
          have hjw : IntKind.i64.wrap (((j + 1 : Nat) : Int) - 1) = (j : Int) := by rw [IntKind.wrap_i64]; omega
          have hdk : decide ((0 : Int) < ((j + 1 : Nat) : Int)) = true := decide_eq_true (by omega)
          clear hc
          by_cases hr : l[j] < l[j + 1]
          · have HL : Hid (upV h (aheadV l (j + 1 + 1)) (l.drop (j + 1 + 1)) = upV h (-1) l) := (upV_yes hlt (by rw [hja]; exact hr) i1).trans HUP.out
            have d1 : decide (l[j + 1] ≤ l[j]) = false := decide_eq_false (by omega)
            clear HUP hr h0 hja
            generalize l[j + 1] = x at *
            generalize l[j] = y at *
            go_wp2_with fail
            refine (l1In_yes _ _ _ _ i0 i1).mono ?_
            rintro e w2 ⟨rfl, hw2⟩
            rw [hw2]
            clear hw2
            go_wp2
            go_roundw
            case rel => exact ⟨j + 1 + 1, by omega, by go_num, by rw [HA.out]; omega, HL.out, by trivial⟩
            case measure => simp [intOf]; omega
          · have HV : Hid (upV h (-1) l = false) := HUP.out.symm.trans (upV_no hlt (fun c => hr (by rw [← hja]; exact c.1)))
            have d1 : decide (l[j + 1] ≤ l[j]) = true := decide_eq_true (by omega)
            clear HUP hr h0 hja HA
            generalize l[j + 1] = x at *
            generalize l[j] = y at *
            go_wp2_with fail
            refine (l1In_yes _ _ _ _ i0 i1).mono ?_
            rintro e w2 ⟨rfl, hw2⟩
            rw [hw2]
            clear hw2
            go_wp2
            go_ret
            exact ⟨ret_b2 HV.out.symm, rfl⟩
      · have HV : Hid (upV h (-1) l = false) := HUP.out.symm.trans (upV_no hlt (fun c => hin ⟨by omega, c.2⟩))
        have h2 : l[k] < 0 ∨ h < l[k] := by omega
        clear hin hc HUP HA h0
        generalize l[k] = x at *
        go_wp2_with fail
        refine (l1In_no _ _ _ _ h2).mono ?_
        rintro e w2 ⟨rfl, hw2⟩
        rw [hw2]
        clear hw2
        go_wp2
        go_ret
        exact ⟨ret_b2 HV.out.symm, rfl⟩
    · obtain rfl : k = l.length := by omega
      have HV : Hid (upV h (-1) l = true) := HUP.out.symm.trans (upV_end h l _)
      clear HUP h0
      go_wp2
      go_ret
      exact ⟨ret_b2 HV.out.symm, rfl⟩
set_option maxHeartbeats 1000000 in
theorem iVotes_any (a : Option Addr) (cap : Nat) (l : List Int) (m : Int) (w : World) (hn : l.length ≤ 1048576) (hZ : Is w.heap.size a l w) :
    Calls Try.prog 73 #[.slice a l.length cap, .int .i64 m] w fun e w' => e = .returned (.bool (votesV m l)) ∧ w' = w := by
  have HZ := hid hZ
  have EG : Hid (votesV m l = upV (m - 1) (-1) l) := rfl
  clear hZ
  go_enter Try.func73, Try.ntmps73
  go_wp2
  go_loopw [5, 10] (fun t i wr => ∃ k : Nat, k ≤ l.length ∧ i = .int .i64 k ∧ t = .int .i64 (aheadV l k) ∧ upV (m - 1) (aheadV l k) (l.drop k) = upV (m - 1) (-1) l ∧ wr = w) (fun _ i _ => l.length - (intOf i).toNat)
  case atStart => exact ⟨0, Nat.zero_le _, rfl, rfl, rfl, rfl⟩
  case round =>
    obtain ⟨k, hk, rfl, rfl, hup, hwr⟩ := hrel
    subst hwr
    have HUP := hid hup
    clear hup
    by_cases hlt : k < l.length
    · obtain ⟨b, off, rfl, hb, hc⟩ := HZ.out.cell (by omega)
      have x0 := hc k hlt
      clear hc
      by_cases hin : aheadV l k < l[k] ∧ l[k] ≤ m - 1
      · have HL : Hid (upV (m - 1) (aheadV l (k + 1)) (l.drop (k + 1)) = upV (m - 1) (-1) l) := (upV_yes hlt hin.1 hin.2).trans HUP.out
        have HA := hid (aheadV_succ l k hlt)
        have d1 : decide (l[k] ≤ aheadV l k) = false := decide_eq_false (by omega)
        have d2 : decide (m ≤ l[k]) = false := decide_eq_false (by omega)
        clear hin HUP
        generalize aheadV l k = ah at *
        generalize l[k] = x at *
        go_wp2
        go_roundw
        case rel => exact ⟨k + 1, by omega, by go_num, by rw [HA.out], HL.out, by trivial⟩
        case measure => simp [intOf]; omega
      · have HV : Hid (upV (m - 1) (-1) l = false) := HUP.out.symm.trans (upV_no hlt hin)
        by_cases h1 : l[k] ≤ aheadV l k
        · have d1 : decide (l[k] ≤ aheadV l k) = true := decide_eq_true h1
          clear hin h1 HUP
          generalize aheadV l k = ah at *
          generalize l[k] = x at *
          go_wp2
          go_ret
          exact ⟨ret_b2 (EG.out.trans HV.out).symm, rfl⟩
        · have d1 : decide (l[k] ≤ aheadV l k) = false := decide_eq_false h1
          have d2 : decide (m ≤ l[k]) = true := decide_eq_true (by omega)
          clear hin h1 HUP
          generalize aheadV l k = ah at *
          generalize l[k] = x at *
          go_wp2
          go_ret
          exact ⟨ret_b2 (EG.out.trans HV.out).symm, rfl⟩
    · obtain rfl : k = l.length := by omega
      have HV : Hid (upV (m - 1) (-1) l = true) := HUP.out.symm.trans (upV_end _ l _)
      clear HUP
      generalize aheadV l l.length = ah at *
      go_wp2
      go_ret
      exact ⟨ret_b2 (EG.out.trans HV.out).symm, rfl⟩
/-- so many judges -/
def judgesN (m : Int) : Bool := decide (1 ≤ m) && decide (m ≤ 5)
def majN (m : Int) (n : Nat) : Bool := decide (m < 2 * (n : Int))
/-- what IsMajority tells -/
def majOk (m : Int) (l : List Int) : Bool := judgesN m && votesV m l
def majV (m : Int) (l : List Int) : Bool := majOk m l && majN m l.length
set_option maxHeartbeats 400000 in
theorem isJudges_any (m : Int) (w : World) : Calls Try.prog 35 #[.int .i64 m] w fun e w' => e = .returned (.bool (judgesN m)) ∧ w' = w := by
  by_cases h1 : 1 ≤ m
  · by_cases h2 : m ≤ 5
    · have e : judgesN m = true := by unfold judgesN; rw [decide_eq_true h1, decide_eq_true h2]; rfl
      have d1 : decide ((1 : Int) ≤ m) = true := decide_eq_true h1
      have d2 : decide (m ≤ 5) = true := decide_eq_true h2
      rw [e]
      go_enter Try.func35, Try.ntmps35
      go_wp2
      go_ret
      exact ⟨rfl, rfl⟩
    · have e : judgesN m = false := by unfold judgesN; rw [decide_eq_false h2]; simp
      have d1 : decide ((1 : Int) ≤ m) = true := decide_eq_true h1
      have d2 : decide (m ≤ 5) = false := decide_eq_false h2
      rw [e]
      go_enter Try.func35, Try.ntmps35
      go_wp2
      go_ret
      exact ⟨rfl, rfl⟩
  · have e : judgesN m = false := by unfold judgesN; rw [decide_eq_false h1]; rfl
    have d1 : decide ((1 : Int) ≤ m) = false := decide_eq_false h1
    rw [e]
    go_enter Try.func35, Try.ntmps35
    go_wp2
    go_ret
    exact ⟨rfl, rfl⟩
theorem judgesN_yes {m : Int} (h : judgesN m = true) : 1 ≤ m ∧ m ≤ 5 := by unfold judgesN at h; simpa using h
theorem judgesN_no {m : Int} (h : judgesN m = false) : m < 1 ∨ 5 < m := by
  unfold judgesN at h
  by_cases h1 : 1 ≤ m
  · rw [decide_eq_true h1] at h
    have : ¬ m ≤ 5 := by simpa using h
    omega
  · omega
set_option maxHeartbeats 1000000 in
theorem iMaj_any (a : Option Addr) (cap : Nat) (l : List Int) (m : Int) (w : World) (hn : l.length ≤ 1048576) (hZ : Is w.heap.size a l w) :
    Calls Try.prog 100 #[.int .i64 m, .slice a l.length cap] w fun e w' => e = .returned (.tuple #[.bool (majV m l), .bool (majOk m l)]) ∧ w' = w := by
  have HZ := hid hZ
  have HJ := hid (isJudges_any m w)
  have HV := hid (iVotes_any a cap l m w hn hZ)
  clear hZ
  cases hj : judgesN m
  · have e1 : majOk m l = false := by unfold majOk; rw [hj]; rfl
    have e2 : majV m l = false := by unfold majV; rw [e1]; rfl
    rw [hj] at HJ
    rw [e1, e2]
    clear e1 e2
    go_enter Try.func100, Try.ntmps100
    go_wp2_with fail
    refine HJ.out.mono ?_
    rintro e w2 ⟨rfl, hw2⟩
    rw [hw2]
    clear hw2
    go_wp2
    go_ret2
    exact ⟨rfl, rfl⟩
  · cases hv : votesV m l
    · have e1 : majOk m l = false := by unfold majOk; rw [hv]; simp
      have e2 : majV m l = false := by unfold majV; rw [e1]; rfl
      rw [hj] at HJ
      rw [hv] at HV
      rw [e1, e2]
      clear e1 e2
      go_enter Try.func100, Try.ntmps100
      go_wp2_with fail
      refine HJ.out.mono ?_
      rintro e w2 ⟨rfl, hw2⟩
      rw [hw2]
      clear hw2
      go_wp2_with fail
      refine HV.out.mono ?_
      rintro e w3 ⟨rfl, hw3⟩
      rw [hw3]
      clear hw3
      go_wp2
      go_ret2
      exact ⟨rfl, rfl⟩
    · have e1 : majOk m l = true := by unfold majOk; rw [hj, hv]; rfl
      have e2 : majV m l = majN m l.length := by unfold majV; rw [e1]; rfl
      have hq := judgesN_yes hj
      rw [hj] at HJ
      rw [hv] at HV
      rw [e1, e2]
      have hw : wrap64 (2 * (l.length : Int)) = 2 * (l.length : Int) := by unfold wrap64; omega
      have EN : Hid (majN m l.length = decide (m < 2 * (l.length : Int))) := rfl
      clear e1 e2
      go_enter Try.func100, Try.ntmps100
      go_wp2_with fail
      refine HJ.out.mono ?_
      rintro e w2 ⟨rfl, hw2⟩
      rw [hw2]
      clear hw2
      go_wp2_with fail
      refine HV.out.mono ?_
      rintro e w3 ⟨rfl, hw3⟩
      rw [hw3]
      clear hw3
      go_wp2
      go_ret2
      exact ⟨by rw [EN.out]; rfl, rfl⟩
set_option maxHeartbeats 1000000 in
theorem sMajority_any (a : Option Addr) (cap : Nat) (n : Nat) (m : Int) (w : World) (hn : n ≤ 1048576) :
    Calls Try.prog 90 #[.int .i64 m, .slice a n cap] w fun e w' => e = .returned (.bool (majN m n)) ∧ w' = w := by
  have hw : wrap64 (2 * (n : Int)) = 2 * (n : Int) := by unfold wrap64; omega
  have EN : Hid (majN m n = decide (m < 2 * (n : Int))) := rfl
  go_enter Try.func90, Try.ntmps90
  go_wp2
  go_ret
  exact ⟨by rw [EN.out]; rfl, rfl⟩
end Go.Proofs.Ytikmkkklgdkpaaa
