/- Walks of the program's goodZone, isOpen. -/
import Derived.Test.YteofdaecknlkdaaG
import Derived.Laws.StructEq
namespace Go.Proofs.Yteofdaecknlkdaa
set_option maxRecDepth 100000
open Go.ChangeShapes Go.WideShapes Go.ChangeAt Go.RowKit
set_option maxHeartbeats 400000 in
theorem goodZone_any (dd : ByteArray) (ss : Int) (ff : Bool) (w : World) : Calls Try.prog 41 #[.agg #[.string dd, .int .i64 ss, .bool ff]] w fun e w' => e = .returned (.bool (goodZ ⟨dd, ss, ff⟩)) ∧ Below w.heap.size w w' := by
  have hv : goodZ ⟨dd, ss, ff⟩ = decide (dd.size ≤ 60 ∧ 0 ≤ ss ∧ ss ≤ dd.size ∧ (dd.size = 60 → ff = true)) := rfl
  by_cases g1 : dd.size ≤ 60
  · have hd1 : decide ((60 : Int) < (dd.size : Int)) = false := by simp; omega
    by_cases g2 : 0 ≤ ss
    · have hd2 : decide (ss < 0) = false := by simp; omega
      by_cases g3 : ss ≤ dd.size
      · have hd3 : decide ((dd.size : Int) < ss) = false := by simp; omega
        cases ff
        · by_cases g4 : dd.size = 60
          · have hd4 : decide ((dd.size : Int) < 60) = false := by simp; omega
            have hw : goodZ ⟨dd, ss, false⟩ = false := by rw [hv]; exact decide_eq_false (fun h => by cases h.2.2.2 g4)
            rw [hw]
            clear hw hv
            go_enter Try.func41, Try.ntmps41
            go_wp2
            go_ret
            exact ⟨rfl, (Below.refl _ _).alloc (Nat.le_refl _) _⟩
          · have hd4 : decide ((dd.size : Int) < 60) = true := by simp; omega
            have hw : goodZ ⟨dd, ss, false⟩ = true := by rw [hv]; exact decide_eq_true ⟨g1, g2, g3, fun h => absurd h g4⟩
            rw [hw]
            clear hw hv
            go_enter Try.func41, Try.ntmps41
            go_wp2
            go_ret
            exact ⟨rfl, (Below.refl _ _).alloc (Nat.le_refl _) _⟩
        · have hw : goodZ ⟨dd, ss, true⟩ = true := by rw [hv]; exact decide_eq_true ⟨g1, g2, g3, fun _ => rfl⟩
          rw [hw]
          clear hw hv
          go_enter Try.func41, Try.ntmps41
          go_wp2
          go_ret
          exact ⟨rfl, (Below.refl _ _).alloc (Nat.le_refl _) _⟩
      · have hd3 : decide ((dd.size : Int) < ss) = true := by simp; omega
        have hw : goodZ ⟨dd, ss, ff⟩ = false := by rw [hv]; exact decide_eq_false (fun h => g3 h.2.2.1)
        rw [hw]
        clear hw hv
        go_enter Try.func41, Try.ntmps41
        go_wp2
        go_ret
        exact ⟨rfl, (Below.refl _ _).alloc (Nat.le_refl _) _⟩
    · have hd2 : decide (ss < 0) = true := by simp; omega
      have hw : goodZ ⟨dd, ss, ff⟩ = false := by rw [hv]; exact decide_eq_false (fun h => g2 h.2.1)
      rw [hw]
      clear hw hv
      go_enter Try.func41, Try.ntmps41
      go_wp2
      go_ret
      exact ⟨rfl, (Below.refl _ _).alloc (Nat.le_refl _) _⟩
  · have hd1 : decide ((60 : Int) < (dd.size : Int)) = true := by simp; omega
    have hw : goodZ ⟨dd, ss, ff⟩ = false := by rw [hv]; exact decide_eq_false (fun h => g1 h.1)
    rw [hw]
    clear hw hv
    go_enter Try.func41, Try.ntmps41
    go_wp2
    go_ret
    exact ⟨rfl, (Below.refl _ _).alloc (Nat.le_refl _) _⟩
theorem size_nil {dd : ByteArray} (h : dd.toList = []) : dd.size = 0 := by
  rw [ByteArray.toList_eq] at h
  exact (Array.length_toList (xs := dd.data)).symm.trans (by rw [h]; rfl)
set_option maxHeartbeats 400000 in
theorem isOpen_any (dd : ByteArray) (ss : Int) (ff : Bool) (w : World) (hg : goodZ ⟨dd, ss, ff⟩ = true) : Calls Try.prog 42 #[.agg #[.string dd, .int .i64 ss, .bool ff]] w fun e w' => e = .returned (.bool (openZ ⟨dd, ss, ff⟩)) ∧ Below w.heap.size w w' := by
  have hg' : dd.size ≤ 60 ∧ 0 ≤ ss ∧ ss ≤ dd.size ∧ (dd.size = 60 → ff = true) := of_decide_eq_true hg
  clear hg
  cases ff
  · cases he : dd.toList.isEmpty
    · have hn : ¬ dd.toList = [] := by intro h; rw [h] at he; cases he
      have hv : openZ ⟨dd, ss, false⟩ = true := by unfold openZ; show (!dd.toList.isEmpty && !false) = _; rw [he]; rfl
      rw [hv]
      clear hv hg'
      go_enter Try.func42, Try.ntmps42
      go_wp2
      go_ret
      exact ⟨rfl, (Below.refl _ _).alloc (Nat.le_refl _) _⟩
    · have hn : dd.toList = [] := by simpa using he
      have hv : openZ ⟨dd, ss, false⟩ = false := by unfold openZ; show (!dd.toList.isEmpty && !false) = _; rw [he]; rfl
      rw [hv]
      have hs0 := size_nil hn
      obtain rfl : ss = 0 := by omega
      clear hv hg'
      go_enter Try.func42, Try.ntmps42
      go_wp2
      go_ret
      exact ⟨rfl, (Below.refl _ _).alloc (Nat.le_refl _) _⟩
  · have hv : openZ ⟨dd, ss, true⟩ = false := by unfold openZ; show (!dd.toList.isEmpty && !true) = _; cases dd.toList.isEmpty <;> rfl
    rw [hv]
    clear hv hg'
    go_enter Try.func42, Try.ntmps42
    go_wp2
    go_ret
    exact ⟨rfl, (Below.refl _ _).alloc (Nat.le_refl _) _⟩
end Go.Proofs.Yteofdaecknlkdaa
