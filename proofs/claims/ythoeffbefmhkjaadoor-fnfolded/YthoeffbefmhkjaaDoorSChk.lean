/- Walks of the program's CheckSum. -/
import Derived.Test.YthoeffbefmhkjaaDoorSWith
import Derived.Test.YthoeffbefmhkjaaDoorShelf
namespace Go.Proofs.YthoeffbefmhkjaaDoor
set_option maxRecDepth 100000
open Go.ChangeShapes Go.WideShapes Go.ChangeAt Go.RowKit
set_option maxHeartbeats 400000 in
theorem clone_any (s : ByteArray) (w : World) (hs : s.size ≤ 281474976710656) :
    Calls Tryd.prog 56 #[.string s] w fun e w' => e = .returned (.string s) ∧ Below w.heap.size w w' := by
  go_enter Tryd.func56, Tryd.ntmps56
  go_wp2_with fail
  refine (Tryd.stringslite_Clone _ _ hs).mono ?_
  rintro e w1 ⟨rfl, hb⟩
  go_wp2
  go_ret
  exact ⟨rfl, hb⟩
def okCheck (s : ByteArray) : Bool := decide (2 ≤ s.size ∧ s.size ≤ 400 ∧ G00541.sumOn 0 s.data.toList = 0)
def cutTwo (s : ByteArray) : ByteArray := s.extract 0 (s.size - 2)
def valCheck (s : ByteArray) : ByteArray := if okCheck s = true then cutTwo s else ⟨#[]⟩
theorem okCheck_yes {s : ByteArray} (h : 2 ≤ s.size ∧ s.size ≤ 400 ∧ G00541.sumOn 0 s.data.toList = 0) : okCheck s = true := by unfold okCheck; simpa using h
theorem okCheck_no {s : ByteArray} (h : ¬ (2 ≤ s.size ∧ s.size ≤ 400 ∧ G00541.sumOn 0 s.data.toList = 0)) : okCheck s = false := by unfold okCheck; simpa using h
theorem valCheck_yes {s : ByteArray} (h : 2 ≤ s.size ∧ s.size ≤ 400 ∧ G00541.sumOn 0 s.data.toList = 0) : valCheck s = cutTwo s := by unfold valCheck; rw [if_pos (okCheck_yes h)]
theorem valCheck_no {s : ByteArray} (h : ¬ (2 ≤ s.size ∧ s.size ≤ 400 ∧ G00541.sumOn 0 s.data.toList = 0)) : valCheck s = ⟨#[]⟩ := by unfold valCheck; rw [if_neg (by rw [okCheck_no h]; decide)]
theorem implOf_yes (s : ByteArray) (w : World) (hT : Tab w) (hs : s.size ≤ 400) :
    Calls Tryd.prog 55 #[.string s] w fun e w' => e = .returned (.tuple #[.int .i64 (G00541.sumOn 0 s.data.toList : Nat), .bool true]) ∧ w' = w := by
  refine (implOf_any s w hT (by omega)).mono fun e w' ⟨he, hw⟩ => ⟨?_, hw⟩
  rw [he, show (0 : Int) = ((0 : Nat) : Int) from rfl, okSum_yes (by decide) hs, valSum_yes (by decide) hs]
theorem implOf_no (s : ByteArray) (w : World) (hT : Tab w) (hb : s.size ≤ 1048576) (hs : 400 < s.size) :
    Calls Tryd.prog 55 #[.string s] w fun e w' => e = .returned (.tuple #[.int .i64 0, .bool false]) ∧ w' = w := by
  refine (implOf_any s w hT (by omega)).mono fun e w' ⟨he, hw⟩ => ⟨?_, hw⟩
  rw [he, okSum_no (by omega), valSum_no (by omega)]
theorem cutTwo_size (s : ByteArray) : (s.extract 0 (s.size - 2)).size ≤ s.size := by rw [ByteArray.size_extract]; omega
set_option maxHeartbeats 400000 in
theorem implCheck_any (s : ByteArray) (w : World) (hT : Tab w) (hs : s.size ≤ 1048576) :
    Calls Tryd.prog 40 #[.string s] w fun e w' => e = .returned (.tuple #[.string (valCheck s), .bool (okCheck s)]) ∧ Below w.heap.size w w' := by
  by_cases h1 : 2 ≤ s.size
  · by_cases h2 : s.size ≤ 400
    · by_cases h0 : G00541.sumOn 0 s.data.toList = 0
      · have hy := And.intro h1 (And.intro h2 h0)
        rw [okCheck_yes hy, valCheck_yes hy]
        clear hy
        have H0 : Hid (G00541.sumOn 0 s.data.toList = 0) := h0
        clear h0
        have hc := cutTwo_size s
        have hd : decide ((s.size : Int) < 2) = false := by simp; omega
        go_enter Tryd.func40, Tryd.ntmps40
        go_wp2_with fail
        refine (implOf_yes _ _ hT h2).mono ?_
        rintro e w1 ⟨rfl, rfl⟩
        rw [H0.out]
        go_wp2_with fail
        refine (clone_any _ _ (by omega)).mono ?_
        rintro e w2 ⟨rfl, hb⟩
        go_wp2
        go_ret2
        exact ⟨rfl, hb⟩
      · have hn : ¬ (2 ≤ s.size ∧ s.size ≤ 400 ∧ G00541.sumOn 0 s.data.toList = 0) := fun k => h0 k.2.2
        rw [okCheck_no hn, valCheck_no hn]
        clear hn
        have hd : decide ((s.size : Int) < 2) = false := by simp; omega
        go_enter Tryd.func40, Tryd.ntmps40
        go_wp2_with fail
        refine (implOf_yes _ _ hT h2).mono ?_
        rintro e w1 ⟨rfl, rfl⟩
        generalize G00541.sumOn 0 s.data.toList = m at *
        have hne : ((m : Int) != 0) = true := by rw [bne_iff_ne]; omega
        go_wp2
        go_ret2
        exact ⟨rfl, Below.refl _ _⟩
    · have hn : ¬ (2 ≤ s.size ∧ s.size ≤ 400 ∧ G00541.sumOn 0 s.data.toList = 0) := fun k => h2 k.2.1
      rw [okCheck_no hn, valCheck_no hn]
      clear hn
      have hd : decide ((s.size : Int) < 2) = false := by simp; omega
      go_enter Tryd.func40, Tryd.ntmps40
      go_wp2_with fail
      refine (implOf_no _ _ hT hs (by omega)).mono ?_
      rintro e w1 ⟨rfl, rfl⟩
      go_wp2
      go_ret2
      exact ⟨rfl, Below.refl _ _⟩
  · have hn : ¬ (2 ≤ s.size ∧ s.size ≤ 400 ∧ G00541.sumOn 0 s.data.toList = 0) := fun k => h1 k.1
    rw [okCheck_no hn, valCheck_no hn]
    clear hn
    have hd : decide ((s.size : Int) < 2) = true := by simp; omega
    go_enter Tryd.func40, Tryd.ntmps40
    go_wp2_with fail
    go_ret2
    exact ⟨rfl, Below.refl _ _⟩
end Go.Proofs.YthoeffbefmhkjaaDoor
