/- Walks of the sums' functions. -/
import Derived.Test.YthoeffbefmhkjaaDoorChecked
import Derived.Test.YthoeffbefmhkjaaDoorSBits
import Derived.WalkKit
import Derived.ProofKit
import Derived.OpenShut
namespace Go.Proofs.YthoeffbefmhkjaaDoor
set_option maxRecDepth 100000
open Go.ChangeShapes Go.WideShapes Go.ChangeAt Go.RowKit
theorem ret_int {k : IntKind} {a b : Int} (h : a = b) : Ending.returned (.int k a) = .returned (.int k b) := by rw [h]
theorem ret_two {a b : Int} {c d : Bool} (h : a = b) (g : c = d) : Ending.returned (.tuple #[.int .i64 a, .bool c]) = .returned (.tuple #[.int .i64 b, .bool d]) := by rw [h, g]
def Tab (w : World) : Prop := ∀ i : Nat, i < 16 → w.cell? ⟨0, i, none⟩ = some (.int .i64 (G00541.tab.getD i 0 : Nat))
set_option maxHeartbeats 400000 in
theorem four_nat (s f : Nat) (w : World) (hs : s < 65536) (hf : f < 16) (hc : w.cell? ⟨0, s / 4096, none⟩ = some (.int .i64 (G00541.tab.getD (s / 4096) 0 : Nat))) :
    Calls Tryd.prog 65 #[.int .i64 s, .int .i64 f] w fun e w' => e = .returned (.int .i64 (G00541.nibOn s f : Nat)) ∧ w' = w := by
  go_enter Tryd.func65, Tryd.ntmps65
  go_wp2
  go_ret
  exact ⟨ret_int (four_val s f hs hf), rfl⟩
theorem four_any (s f : Int) (w : World) (hT : Tab w) (h0 : 0 ≤ s) (hs : s < 65536) (g0 : 0 ≤ f) (hf : f < 16) :
    Calls Tryd.prog 65 #[.int .i64 s, .int .i64 f] w fun e w' => e = .returned (.int .i64 (G00541.nibOn s.toNat f.toNat : Nat)) ∧ w' = w := by
  obtain ⟨s, rfl⟩ := Int.eq_ofNat_of_zero_le h0
  obtain ⟨f, rfl⟩ := Int.eq_ofNat_of_zero_le g0
  rw [Int.toNat_natCast, Int.toNat_natCast]
  exact four_nat s f w (by omega) (by omega) (hT _ (by omega))
theorem btake_snoc (s : ByteArray) (k : Nat) (h : k < s.size) : s.data.toList.take (k + 1) = s.data.toList.take k ++ [s[k]] := by
  rw [List.take_succ_eq_append_getElem (by simpa using h)]; rfl
set_option maxHeartbeats 400000 in
theorem isSum_yes (n : Int) (w : World) (h0 : 0 ≤ n) (h1 : n < 65536) : Calls Tryd.prog 64 #[.int .i64 n] w fun e w' => e = .returned (.bool true) ∧ w' = w := by
  go_enter Tryd.func64, Tryd.ntmps64
  go_wp2
  go_ret
  exact ⟨rfl, rfl⟩
set_option maxHeartbeats 400000 in
theorem isSum_no (n : Int) (w : World) (h : n < 0 ∨ 65536 ≤ n) : Calls Tryd.prog 64 #[.int .i64 n] w fun e w' => e = .returned (.bool false) ∧ w' = w := by
  rcases h with h | h
  · have hd : decide (0 ≤ n) = false := by simp; omega
    go_enter Tryd.func64, Tryd.ntmps64
    go_wp2
    go_ret
    exact ⟨rfl, rfl⟩
  · have hd : decide (n < 65536) = false := by simp; omega
    go_enter Tryd.func64, Tryd.ntmps64
    go_wp2
    go_ret
    exact ⟨rfl, rfl⟩
set_option maxHeartbeats 400000 in
theorem implOn_good (n : Nat) (s : ByteArray) (w : World) (hT : Tab w) (hn : n < 65536) (hs : s.size ≤ 400) :
    Calls Tryd.prog 61 #[.int .i64 n, .string s] w fun e w' => e = .returned (.tuple #[.int .i64 (G00541.sumOn n s.data.toList : Nat), .bool true]) ∧ w' = w := by
  have hd : decide ((400 : Int) < (s.size : Int)) = false := by simp; omega
  go_enter Tryd.func61, Tryd.ntmps61
  go_wp2_with (go_at_call 64; refine (isSum_yes _ _ (by omega) (by omega)).mono ?_; rintro e w' ⟨rfl, rfl⟩)
  go_loop [0, 17] (fun t i => ∃ k : Nat, k ≤ s.size ∧ i = .int .i64 k ∧ t = .int .i64 (G00541.sumOn n (s.data.toList.take k) : Nat)) (fun _ i => s.size - (intOf i).toNat)
  case atStart => exact ⟨0, Nat.zero_le _, rfl, rfl⟩
  case round =>
    obtain ⟨k, hk, rfl, rfl⟩ := hrel
    have hl := G00541.sumOn_lt (s.data.toList.take k) n hn
    by_cases hlt : k < s.size
    · have HS : Hid (G00541.sumOn n (s.data.toList.take (k + 1)) = G00541.byteOn (G00541.sumOn n (s.data.toList.take k)) s[k].toNat) := by rw [btake_snoc s k hlt]; exact G00541.sumOn_snoc _ _ _
      generalize G00541.sumOn n (s.data.toList.take k) = t at *
      have hb : s[k].toNat < 256 := s[k].toNat_lt
      have hn1 := G00541.nibOn_lt t (s[k].toNat / 16) hl
      have hn2 := G00541.nibOn_lt (G00541.nibOn t (s[k].toNat / 16)) (s[k].toNat % 16) hn1
      go_wp2_with (go_at_call 65; refine (four_any _ _ _ hT (by omega) (by omega) (by omega) (by omega)).mono ?_; rintro e w' ⟨rfl, rfl⟩)
      go_round
      case rel => exact ⟨k + 1, by omega, by go_num, by rw [HS.out]; unfold G00541.byteOn; rfl⟩
      case measure => simp [intOf]; omega
    · go_wp2
      go_ret2
      exact ⟨ret_two (by rw [List.take_of_length_le (by simp; omega)]) rfl, rfl⟩
end Go.Proofs.YthoeffbefmhkjaaDoor
