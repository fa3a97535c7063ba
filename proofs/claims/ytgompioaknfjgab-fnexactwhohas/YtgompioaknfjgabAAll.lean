/- Walk of l1All. -/
import Derived.Test.YtgompioaknfjgabIn
import Derived.Test.YtgompioaknfjgabIntR
import Derived.WalkKit
namespace Go.Proofs.Ytgompioaknfjgab
set_option maxRecDepth 100000
open Go.ChangeShapes Go.WideShapes Go.ChangeAt Go.RowKit
theorem ret_b2 {a b : Bool} (h : a = b) : Ending.returned (.bool a) = .returned (.bool b) := by rw [h]
/-- each number in lo .. hi -/
def allIn (l : List Int) (lo hi : Int) : Bool := l.all fun x => decide (lo ≤ x ∧ x ≤ hi)
theorem allIn_bad (l : List Int) (lo hi : Int) (k : Nat) (h : k < l.length) (hb : ¬ (lo ≤ l[k] ∧ l[k] ≤ hi)) : allIn l lo hi = false := by
  unfold allIn
  rw [List.all_eq_false]
  exact ⟨l[k], List.getElem_mem h, by rw [decide_eq_false hb]; decide⟩
theorem allIn_all (l : List Int) (lo hi : Int) (h : ∀ j (hj : j < l.length), lo ≤ l[j] ∧ l[j] ≤ hi) : allIn l lo hi = true := by
  unfold allIn
  rw [List.all_eq_true]
  intro x hx
  obtain ⟨j, hj, rfl⟩ := List.getElem_of_mem hx
  exact decide_eq_true (h j hj)
theorem allIn_at (l : List Int) (lo hi : Int) (h : allIn l lo hi = true) (j : Nat) (hj : j < l.length) : lo ≤ l[j] ∧ l[j] ≤ hi := by
  unfold allIn at h
  rw [List.all_eq_true] at h
  exact of_decide_eq_true (h _ (List.getElem_mem hj))
set_option maxHeartbeats 1000000 in
theorem l1All_any (a : Option Addr) (cap : Nat) (l : List Int) (lo hi : Int) (w : World) (hn : l.length ≤ 1048576) (hZ : Is w.heap.size a l w) :
    Calls Try.prog 33 #[.slice a l.length cap, .int .i64 lo, .int .i64 hi] w fun e w' => e = .returned (.bool (allIn l lo hi)) ∧ w' = w := by
  have HZ : Hid (Is w.heap.size a l w) := hZ
  clear hZ
  go_enter Try.func33, Try.ntmps33
  go_wp2
  go_loopw [11] (fun i wr => ∃ k : Nat, k ≤ l.length ∧ i = .int .i64 k ∧ (∀ j (hj : j < l.length), j < k → lo ≤ l[j] ∧ l[j] ≤ hi) ∧ wr = w) (fun i _ => l.length - (intOf i).toNat)
  case atStart => exact ⟨0, Nat.zero_le _, rfl, (fun _ _ h => absurd h (Nat.not_lt_zero _)), rfl⟩
  case round =>
    obtain ⟨k, hk, rfl, hall, hwr⟩ := hrel
    subst hwr
    have HALL : Hid (∀ j (hj : j < l.length), j < k → lo ≤ l[j] ∧ l[j] ≤ hi) := hall
    clear hall
    by_cases hlt : k < l.length
    · obtain ⟨b, off, rfl, hb, hc⟩ := HZ.out.cell (by omega)
      have x0 := hc k hlt
      clear hc
      by_cases hin : lo ≤ l[k] ∧ l[k] ≤ hi
      · have HL : Hid (∀ j (hj : j < l.length), j < k + 1 → lo ≤ l[j] ∧ l[j] ≤ hi) := fun j hj hjk => by
          by_cases e : j = k
          · subst e; exact hin
          · exact HALL.out j hj (by omega)
        obtain ⟨i0, i1⟩ := hin
        generalize l[k] = x at *
        go_wp2_with fail
        refine (l1In_yes _ _ _ _ i0 i1).mono ?_
        rintro e w2 ⟨rfl, hw2⟩
        rw [hw2]
        clear hw2
        go_wp2
        go_roundw
        case rel => exact ⟨k + 1, by omega, by go_num, HL.out, by trivial⟩
        case measure => simp [intOf]; omega
      · have HV : Hid (allIn l lo hi = false) := allIn_bad l lo hi k hlt hin
        have h2 : l[k] < lo ∨ hi < l[k] := by omega
        clear hin
        generalize l[k] = x at *
        go_wp2_with fail
        refine (l1In_no _ _ _ _ h2).mono ?_
        rintro e w2 ⟨rfl, hw2⟩
        rw [hw2]
        clear hw2
        go_wp2
        go_ret
        exact ⟨ret_b2 HV.out.symm, rfl⟩
    · obtain rfl : k = l.length := by omega
      have HV : Hid (allIn l lo hi = true) := allIn_all l lo hi fun j hj => HALL.out j hj hj
      go_wp2
      go_ret
      exact ⟨ret_b2 HV.out.symm, rfl⟩
end Go.Proofs.Ytgompioaknfjgab
