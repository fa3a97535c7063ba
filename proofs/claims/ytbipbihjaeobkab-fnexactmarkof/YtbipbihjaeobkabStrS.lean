/- Slices of texts: held against each other, marks laid and held. -/
import Derived.Test.YtbipbihjaeobkabStrR
import Derived.Test.YtbipbihjaeobkabMarkT
import Derived.Test.YtbipbihjaeobkabR
import Derived.Deep.RegionWith
import Derived.RegionTactic
namespace Go.Proofs.Ytbipbihjaeobkab
set_option maxRecDepth 100000
open Go.ChangeShapes Go.WideShapes Go.ChangeAt Go.RowKit
def smarks (n k : Nat) : List ByteArray := (List.range n).map fun (i : Nat) => markT (k + i)
theorem smarks_len (n k : Nat) : (smarks n k).length = n := by simp [smarks]
theorem smarks_at (n k i : Nat) (h : i < (smarks n k).length) : (smarks n k)[i] = markT (k + i) := by simp [smarks]
set_option maxHeartbeats 1000000 in
theorem eqStringS_same (a1 a2 : Option Addr) (c1 c2 : Nat) (l : List ByteArray) (w : World) (hn : l.length ≤ 1048576) (h1 : Ss w.heap.size a1 l w) (h2 : Ss w.heap.size a2 l w) :
    Calls Try.prog 23 #[.slice a1 l.length c1, .slice a2 l.length c2] w fun e w' => e = .returned (.bool true) ∧ Below w.heap.size w w' := by
  have H1 : Hid (Ss w.heap.size a1 l w) := h1
  have H2 : Hid (Ss w.heap.size a2 l w) := h2
  clear h1 h2
  go_enter Try.func23, Try.ntmps23
  go_wp2
  go_loopw [5] (fun i wr => ∃ k : Nat, k ≤ l.length ∧ i = .int .i64 k ∧ Below w.heap.size w wr) (fun i _ => l.length - (intOf i).toNat)
  case atStart => exact ⟨0, Nat.zero_le _, rfl, Below.refl _ _⟩
  case round =>
    obtain ⟨k, hk, rfl, hbel⟩ := hrel
    have HBEL : Hid (Below w.heap.size w wr) := hbel
    by_cases hlt : k < l.length
    · obtain ⟨b1, o1, rfl, hb1, hc1⟩ := H1.out.cell (by omega)
      obtain ⟨b2, o2, rfl, hb2, hc2⟩ := H2.out.cell (by omega)
      have x0 := (hbel.cell (p := ⟨b1, o1 + k, none⟩) hb1).trans (hc1 k hlt)
      have y0 := (hbel.cell (p := ⟨b2, o2 + k, none⟩) hb2).trans (hc2 k hlt)
      clear hc1 hc2 hbel
      generalize l[k] = n at *
      go_wp2
      go_region
      all_goals
        go_wp2
        go_roundw
        · exact ⟨k + 1, by omega, by go_num, HBEL.out.drew⟩
        · simp [intOf]; omega
    · clear hbel
      go_wp2
      go_ret
      exact ⟨rfl, HBEL.out⟩
end Go.Proofs.Ytbipbihjaeobkab
