/- Walks of the program's isBlock, goodSeg. -/
import Derived.Test.YtohkhcjdjjlfbaaHA
namespace Go.Proofs.Ytohkhcjdjjlfbaa
set_option maxRecDepth 100000
open Go.ChangeShapes Go.WideShapes Go.ChangeAt Go.RowKit G00541
theorem ret_bd {a b : Bool} (h : a = b) : Ending.returned (.bool a) = .returned (.bool b) := by rw [h]
theorem isBlock_any (x : Int) (w : World) : Calls Try.prog 56 #[.int .i64 x] w fun e w' => e = .returned (.bool (decide (0 ≤ x ∧ x ≤ 15))) ∧ w' = w := by
  by_cases h0 : 0 ≤ x
  · have hd : decide (0 ≤ x) = true := decide_eq_true h0
    go_enter Try.func56, Try.ntmps56
    go_wp2_with fail
    go_ret
    refine ⟨ret_bd ?_, rfl⟩
    by_cases h1 : x < 16
    · simp [h0, h1]; omega
    · simp [h0, h1]; omega
  · have hd : decide (0 ≤ x) = false := decide_eq_false h0
    go_enter Try.func56, Try.ntmps56
    go_wp2_with fail
    go_ret
    refine ⟨ret_bd ?_, rfl⟩
    rfl
theorem isBlock_yes (x : Int) (w : World) (h : 0 ≤ x ∧ x ≤ 15) : Calls Try.prog 56 #[.int .i64 x] w fun e w' => e = .returned (.bool true) ∧ w' = w := by
  have := isBlock_any x w; rw [decide_eq_true h] at this; exact this
theorem isBlock_no (x : Int) (w : World) (h : ¬ (0 ≤ x ∧ x ≤ 15)) : Calls Try.prog 56 #[.int .i64 x] w fun e w' => e = .returned (.bool false) ∧ w' = w := by
  have := isBlock_any x w; rw [decide_eq_false h] at this; exact this
set_option maxHeartbeats 2000000 in
theorem goodSeg_any (p q : Option Addr) (c d : Nat) (l : List Int) (age : Int) (v : List Bool) (w : World) (hI : Is w.heap.size p l w) :
    Calls Try.prog 41 #[.agg #[.slice p l.length c, .int .i64 age], .slice q v.length d] w fun e w' => e = .returned (.bool (goodS ⟨l, age⟩ v)) ∧ Below w.heap.size w w' := by
  have HB : Hid (Below w.heap.size w (w.alloc (.cells #[.slice p l.length c, .int .i64 age] 40))) := boxB w _
  have HI := hid (hI.below HB.out)
  clear hI
  have y0 : (w.alloc (.cells #[.slice p l.length c, .int .i64 age] 40)).cell? ⟨w.heap.size, 0, none⟩ = some (.slice p l.length c) := by go_simp
  have y1 : (w.alloc (.cells #[.slice p l.length c, .int .i64 age] 40)).cell? ⟨w.heap.size, 1, none⟩ = some (.int .i64 age) := by go_simp
  generalize hW : w.alloc (.cells #[.slice p l.length c, .int .i64 age] 40) = W at *
  by_cases q1 : l.length ≤ 6
  case neg =>
    have hd6 : decide ((6 : Int) < (l.length : Int)) = true := decide_eq_true (by omega)
    have HF : Hid (goodS ⟨l, age⟩ v = false) := by show goodS ⟨l, age⟩ v = false; unfold goodS; simp [q1]
    go_enter Try.func41, Try.ntmps41
    go_wp2_with fail
    go_ret
    exact ⟨ret_bd HF.out.symm, HB.out⟩
  have hd6 : decide ((6 : Int) < (l.length : Int)) = false := decide_eq_false (by omega)
  by_cases q4 : v.length = l.length
  case neg =>
    have hde : ((v.length : Int) == (l.length : Int)) = false := beq_eq_false_iff_ne.2 (by omega)
    have hdn : ((v.length : Int) != (l.length : Int)) = true := bne_iff_ne.2 (by omega)
    have HF : Hid (goodS ⟨l, age⟩ v = false) := by show goodS ⟨l, age⟩ v = false; unfold goodS; simp [q4]
    go_enter Try.func41, Try.ntmps41
    go_wp2_with fail
    go_ret
    exact ⟨ret_bd HF.out.symm, HB.out⟩
  have hdn : ((l.length : Int) != (l.length : Int)) = false := by simp
  rw [q4]
  by_cases q2 : 0 ≤ age
  case neg =>
    have hd : decide (age < 0) = true := decide_eq_true (by omega)
    have HF : Hid (goodS ⟨l, age⟩ v = false) := by show goodS ⟨l, age⟩ v = false; unfold goodS; simp [q2]
    go_enter Try.func41, Try.ntmps41
    go_wp2_with fail
    go_ret
    exact ⟨ret_bd HF.out.symm, HB.out⟩
  have hd7 : decide (age < 0) = false := decide_eq_false (by omega)
  by_cases q3 : age ≤ 1000
  case neg =>
    have hd : decide (1000 < age) = true := decide_eq_true (by omega)
    have HF : Hid (goodS ⟨l, age⟩ v = false) := by show goodS ⟨l, age⟩ v = false; unfold goodS; simp [q3]
    go_enter Try.func41, Try.ntmps41
    go_wp2_with fail
    go_ret
    exact ⟨ret_bd HF.out.symm, HB.out⟩
  have hd8 : decide (1000 < age) = false := decide_eq_false (by omega)
  have HGI := hid (goodS_iff ⟨l, age⟩ v)
  go_enter Try.func41, Try.ntmps41
  go_wp2_with fail
  go_loopw [32] (fun i wr => ∃ n : Nat, n ≤ l.length ∧ i = .int .i64 n ∧ (∀ j (h : j < l.length), j < n → 0 ≤ l[j] ∧ l[j] ≤ 15) ∧ wr = W) (fun i _ => l.length - (intOf i).toNat)
  case atStart => exact ⟨0, Nat.zero_le _, rfl, fun _ _ h => absurd h (Nat.not_lt_zero _), rfl⟩
  case round =>
    obtain ⟨n, hn, rfl, hall, rfl⟩ := hrel
    have HALL := hid hall
    clear hall hW y0 y1
    by_cases hi : n < l.length
    · obtain ⟨bp, op, rfl, hbp, hcp⟩ := HI.out.cell (by omega)
      have x0 := hcp n hi
      have HNX : Hid ((0 ≤ l[n] ∧ l[n] ≤ 15) → ∀ j (h : j < l.length), j < n + 1 → 0 ≤ l[j] ∧ l[j] ≤ 15) := fun h j hj hjk => by
        by_cases e : j = n
        · subst e; exact h
        · exact HALL.out j hj (by omega)
      have HBAD : Hid (¬ (0 ≤ l[n] ∧ l[n] ≤ 15) → goodS ⟨l, age⟩ v = false) := fun h => by
        cases e : goodS ⟨l, age⟩ v
        · rfl
        · exact absurd ((HGI.out.1 e).2.1 l[n] (List.getElem_mem _)) h
      clear hcp HALL
      generalize l[n] = x at *
      by_cases hx : 0 ≤ x ∧ x ≤ 15
      · have HC := hid (fun u => isBlock_yes x u hx)
        have HX := hid hx
        clear hx
        go_wp2_with fail
        refine (HC.out _).mono ?_
        rintro e w2 ⟨rfl, hw2⟩
        rw [hw2]
        clear hw2
        go_wp2_with fail
        go_roundw
        case rel => exact ⟨n + 1, by omega, by go_num, HNX.out HX.out, by trivial⟩
        case measure => simp [intOf]; omega
      · have HC := hid (fun u => isBlock_no x u hx)
        have HF := hid (HBAD.out hx)
        clear hx
        go_wp2_with fail
        refine (HC.out _).mono ?_
        rintro e w2 ⟨rfl, hw2⟩
        rw [hw2]
        clear hw2
        go_wp2_with fail
        go_ret
        exact ⟨ret_bd HF.out.symm, HB.out⟩
    · have HT : Hid (goodS ⟨l, age⟩ v = true) := HGI.out.2 ⟨q1, fun x hx => by
        obtain ⟨j, hj, rfl⟩ := List.getElem_of_mem hx
        exact HALL.out j hj (by omega), by simpa using q2, q3, q4⟩
      go_wp2_with fail
      go_ret
      exact ⟨ret_bd HT.out.symm, HB.out⟩
end Go.Proofs.Ytohkhcjdjjlfbaa
