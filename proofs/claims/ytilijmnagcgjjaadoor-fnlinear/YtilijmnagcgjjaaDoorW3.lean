/- Walks of SumOn and SumOf, of the program and of its model. -/
import Derived.Test.YtilijmnagcgjjaaDoorW2
namespace Go.Proofs.YtilijmnagcgjjaaDoor
set_option maxRecDepth 100000
open Go.ChangeShapes Go.WideShapes Go.ChangeAt Go.RowKit
def okSum (n : Int) (s : ByteArray) : Bool := decide (0 ≤ n ∧ n < 65536 ∧ s.size ≤ 400)
def valSum (n : Int) (s : ByteArray) : Int := if okSum n s = true then ((G00541.sumOn n.toNat s.data.toList : Nat) : Int) else 0
theorem okSum_yes {n : Nat} {s : ByteArray} (h1 : n < 65536) (h2 : s.size ≤ 400) : okSum n s = true := by unfold okSum; simp; omega
theorem valSum_yes {n : Nat} {s : ByteArray} (h1 : n < 65536) (h2 : s.size ≤ 400) : valSum n s = ((G00541.sumOn n s.data.toList : Nat) : Int) := by
  unfold valSum; rw [if_pos (okSum_yes h1 h2), Int.toNat_natCast]
theorem okSum_no {n : Int} {s : ByteArray} (h : n < 0 ∨ 65536 ≤ n ∨ 400 < s.size) : okSum n s = false := by unfold okSum; simp; omega
theorem valSum_no {n : Int} {s : ByteArray} (h : n < 0 ∨ 65536 ≤ n ∨ 400 < s.size) : valSum n s = 0 := by
  unfold valSum; rw [if_neg (by rw [okSum_no h]; decide)]
theorem good_or (n : Int) (s : ByteArray) : (∃ m : Nat, n = m ∧ m < 65536 ∧ s.size ≤ 400) ∨ (n < 0 ∨ 65536 ≤ n ∨ 400 < s.size) := by
  by_cases h : 0 ≤ n ∧ n < 65536 ∧ s.size ≤ 400
  · exact Or.inl ⟨n.toNat, by omega, by omega, h.2.2⟩
  · exact Or.inr (by omega)
set_option maxHeartbeats 400000 in
theorem implOn_bad (n : Int) (s : ByteArray) (w : World) (hs : s.size ≤ 9223372036854775807) (h : n < 0 ∨ 65536 ≤ n ∨ 400 < s.size) :
    Calls Tryd.prog 9 #[.int .i64 n, .string s] w fun e w' => e = .returned (.tuple #[.int .i64 0, .bool false]) ∧ w' = w := by
  by_cases hn : n < 0 ∨ 65536 ≤ n
  · go_enter Tryd.func9, Tryd.ntmps9
    go_wp2_with (go_at_call 20; refine (isSum_no _ _ hn).mono ?_; rintro e w' ⟨rfl, rfl⟩)
    go_ret2
    exact ⟨rfl, rfl⟩
  · have hd : decide ((400 : Int) < (s.size : Int)) = true := by simp; omega
    go_enter Tryd.func9, Tryd.ntmps9
    go_wp2_with (go_at_call 20; refine (isSum_yes _ _ (by omega) (by omega)).mono ?_; rintro e w' ⟨rfl, rfl⟩)
    go_ret2
    exact ⟨rfl, rfl⟩
theorem implOn_any (n : Int) (s : ByteArray) (w : World) (hT : Tab w) (hs : s.size ≤ 9223372036854775807) :
    Calls Tryd.prog 9 #[.int .i64 n, .string s] w fun e w' => e = .returned (.tuple #[.int .i64 (valSum n s), .bool (okSum n s)]) ∧ w' = w := by
  rcases good_or n s with ⟨m, rfl, h1, h2⟩ | h
  · rw [okSum_yes h1 h2, valSum_yes h1 h2]; exact implOn_good m s w hT h1 h2
  · rw [okSum_no h, valSum_no h]; exact implOn_bad n s w hs h
set_option maxHeartbeats 400000 in
theorem implOf_any (s : ByteArray) (w : World) (hT : Tab w) (hs : s.size ≤ 9223372036854775807) :
    Calls Tryd.prog 7 #[.string s] w fun e w' => e = .returned (.tuple #[.int .i64 (valSum 0 s), .bool (okSum 0 s)]) ∧ w' = w := by
  go_enter Tryd.func7, Tryd.ntmps7
  go_wp2_with (go_at_call 9; refine (implOn_any _ _ _ hT hs).mono ?_; rintro e w' ⟨rfl, rfl⟩)
  go_ret2
  exact ⟨rfl, rfl⟩
set_option maxHeartbeats 400000 in
theorem l1In_yes (n lo hi : Int) (w : World) (h : lo ≤ n) (g : n ≤ hi) : Calls Tryd.prog 24 #[.int .i64 n, .int .i64 lo, .int .i64 hi] w fun e w' => e = .returned (.bool true) ∧ w' = w := by
  go_enter Tryd.func24, Tryd.ntmps24
  go_wp2
  go_ret
  exact ⟨rfl, rfl⟩
set_option maxHeartbeats 400000 in
theorem l1In_no (n lo hi : Int) (w : World) (h : n < lo ∨ hi < n) : Calls Tryd.prog 24 #[.int .i64 n, .int .i64 lo, .int .i64 hi] w fun e w' => e = .returned (.bool false) ∧ w' = w := by
  by_cases g : n < lo
  · have hd : decide (lo ≤ n) = false := by simp; omega
    go_enter Tryd.func24, Tryd.ntmps24
    go_wp2
    go_ret
    exact ⟨rfl, rfl⟩
  · have hd : decide (n ≤ hi) = false := by simp; omega
    go_enter Tryd.func24, Tryd.ntmps24
    go_wp2
    go_ret
    exact ⟨rfl, rfl⟩
set_option maxHeartbeats 400000 in
theorem specSumOn_any (n : Int) (s : ByteArray) (w : World) (hs : s.size ≤ maxLen) :
    Calls Tryd.prog 12 #[.int .i64 n, .string s] w fun e w' => e = .returned (.tuple #[.int .i64 (valSum n s), .bool (okSum n s)]) ∧ w' = w := by
  have hs' := hs
  unfold maxLen at hs'
  rcases good_or n s with ⟨m, rfl, h1, h2⟩ | h
  · rw [okSum_yes h1 h2, valSum_yes h1 h2]
    have hd : decide ((400 : Int) < (s.size : Int)) = false := by simp; omega
    go_enter Tryd.func12, Tryd.ntmps12
    go_wp2_with (first
      | (go_at_call 24; refine (l1In_yes _ _ _ _ (by omega) (by omega)).mono ?_; rintro e w' ⟨rfl, rfl⟩)
      | (go_at_call 25; refine (specOn_any _ _ _ h1 hs).mono ?_; rintro e w' ⟨rfl, rfl⟩))
    go_ret2
    exact ⟨rfl, rfl⟩
  · rw [okSum_no h, valSum_no h]
    by_cases hn : n < 0 ∨ 65535 < n
    · go_enter Tryd.func12, Tryd.ntmps12
      go_wp2_with (go_at_call 24; refine (l1In_no _ _ _ _ hn).mono ?_; rintro e w' ⟨rfl, rfl⟩)
      go_ret2
      exact ⟨rfl, rfl⟩
    · have hd : decide ((400 : Int) < (s.size : Int)) = true := by simp; omega
      go_enter Tryd.func12, Tryd.ntmps12
      go_wp2_with (go_at_call 24; refine (l1In_yes _ _ _ _ (by omega) (by omega)).mono ?_; rintro e w' ⟨rfl, rfl⟩)
      go_ret2
      exact ⟨rfl, rfl⟩
set_option maxHeartbeats 400000 in
theorem specOf_any (s : ByteArray) (w : World) (hs : s.size ≤ maxLen) :
    Calls Tryd.prog 14 #[.string s] w fun e w' => e = .returned (.tuple #[.int .i64 (valSum 0 s), .bool (okSum 0 s)]) ∧ w' = w := by
  go_enter Tryd.func14, Tryd.ntmps14
  go_wp2_with (go_at_call 12; refine (specSumOn_any _ _ _ hs).mono ?_; rintro e w' ⟨rfl, rfl⟩)
  go_ret2
  exact ⟨rfl, rfl⟩
end Go.Proofs.YtilijmnagcgjjaaDoor
