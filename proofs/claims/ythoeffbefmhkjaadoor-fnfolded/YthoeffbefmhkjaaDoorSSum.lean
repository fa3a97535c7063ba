/- Walks of the program's SumOn and SumOf. -/
import Derived.Test.YthoeffbefmhkjaaDoorSW1
namespace Go.Proofs.YthoeffbefmhkjaaDoor
set_option maxRecDepth 100000
open Go.ChangeShapes Go.WideShapes Go.ChangeAt Go.RowKit
def okSum (n : Int) (s : ByteArray) : Bool := decide (0 ≤ n ∧ n < 65536 ∧ s.size ≤ 400)
def valSum (n : Int) (s : ByteArray) : Int := if okSum n s = true then ((G00541.sumOn n.toNat s.data.toList : Nat) : Int) else 0
theorem okSum_yes {n : Nat} {s : ByteArray} (h1 : n < 65536) (h2 : s.size ≤ 400) : okSum n s = true := by unfold okSum; simp; omega
theorem valSum_yes {n : Nat} {s : ByteArray} (h1 : n < 65536) (h2 : s.size ≤ 400) : valSum n s = ((G00541.sumOn n s.data.toList : Nat) : Int) := by
  unfold valSum; rw [if_pos (okSum_yes h1 h2), Int.toNat_natCast]
theorem okSum_no {n : Int} {s : ByteArray} (h : n < 0 ∨ 65536 ≤ n ∨ 400 < s.size) : okSum n s = false := by unfold okSum; simp; omega
theorem valSum_no {n : Int} {s : ByteArray} (h : n < 0 ∨ 65536 ≤ n ∨ 400 < s.size) : valSum n s = 0 := by
  unfold valSum; rw [if_neg (by rw [okSum_no h]; decide)]
theorem good_or (n : Int) (s : ByteArray) : (∃ m : Nat, n = m ∧ m < 65536 ∧ s.size ≤ 400) ∨ (n < 0 ∨ 65536 ≤ n ∨ 400 < s.size) := by
  by_cases h : 0 ≤ n ∧ n < 65536 ∧ s.size ≤ 400
  · exact Or.inl ⟨n.toNat, by omega, by omega, h.2.2⟩
  · exact Or.inr (by omega)
set_option maxHeartbeats 400000 in
theorem implOn_bad (n : Int) (s : ByteArray) (w : World) (hs : s.size ≤ 9223372036854775807) (h : n < 0 ∨ 65536 ≤ n ∨ 400 < s.size) :
    Calls Tryd.prog 61 #[.int .i64 n, .string s] w fun e w' => e = .returned (.tuple #[.int .i64 0, .bool false]) ∧ w' = w := by
  by_cases hn : n < 0 ∨ 65536 ≤ n
  · go_enter Tryd.func61, Tryd.ntmps61
    go_wp2_with (go_at_call 64; refine (isSum_no _ _ hn).mono ?_; rintro e w' ⟨rfl, rfl⟩)
    go_ret2
    exact ⟨rfl, rfl⟩
  · have hd : decide ((400 : Int) < (s.size : Int)) = true := by simp; omega
    go_enter Tryd.func61, Tryd.ntmps61
    go_wp2_with (go_at_call 64; refine (isSum_yes _ _ (by omega) (by omega)).mono ?_; rintro e w' ⟨rfl, rfl⟩)
    go_ret2
    exact ⟨rfl, rfl⟩
theorem implOn_any (n : Int) (s : ByteArray) (w : World) (hT : Tab w) (hs : s.size ≤ 9223372036854775807) :
    Calls Tryd.prog 61 #[.int .i64 n, .string s] w fun e w' => e = .returned (.tuple #[.int .i64 (valSum n s), .bool (okSum n s)]) ∧ w' = w := by
  rcases good_or n s with ⟨m, rfl, h1, h2⟩ | h
  · rw [okSum_yes h1 h2, valSum_yes h1 h2]; exact implOn_good m s w hT h1 h2
  · rw [okSum_no h, valSum_no h]; exact implOn_bad n s w hs h
set_option maxHeartbeats 400000 in
theorem implOf_any (s : ByteArray) (w : World) (hT : Tab w) (hs : s.size ≤ 9223372036854775807) :
    Calls Tryd.prog 55 #[.string s] w fun e w' => e = .returned (.tuple #[.int .i64 (valSum 0 s), .bool (okSum 0 s)]) ∧ w' = w := by
  go_enter Tryd.func55, Tryd.ntmps55
  go_wp2_with (go_at_call 61; refine (implOn_any _ _ _ hT hs).mono ?_; rintro e w' ⟨rfl, rfl⟩)
  go_ret2
  exact ⟨rfl, rfl⟩
end Go.Proofs.YthoeffbefmhkjaaDoor
