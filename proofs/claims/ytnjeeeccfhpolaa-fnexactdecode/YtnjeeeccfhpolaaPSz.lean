/- Texts and packets measured and made over. -/
import Derived.Test.YtnjeeeccfhpolaaPkK
import Derived.Test.YtnjeeeccfhpolaaAApp
namespace Go.Proofs.Ytnjeeeccfhpolaa
set_option maxRecDepth 100000
open Go.ChangeShapes Go.WideShapes Go.ChangeAt Go.RowKit
set_option maxHeartbeats 1000000 in
theorem szStringS_l (a : Option Addr) (cap : Nat) (l : List ByteArray) (left : Int) (w : World) (h0 : 0 ≤ left) (h1 : left ≤ 1048576) (hz : ∀ s ∈ l, s.size ≤ 9223372036854775807) (hn : l.length ≤ 9223372036854775807) (hZ : Ss w.heap.size a l w) :
    Calls Try.prog 9 #[.slice a l.length cap, .int .i64 left] w fun e w' => (∃ r : Int, e = .returned (.int .i64 r) ∧ r ≤ left ∧ -1 ≤ r ∧ (0 ≤ r → r + l.length ≤ left)) ∧ w' = w := by
  have HZ : Hid (Ss w.heap.size a l w) := hZ
  have HS : Hid (∀ s ∈ l, s.size ≤ 9223372036854775807) := hz
  clear hZ hz
  by_cases g : (l.length : Int) ≤ left
  · have hd : decide (left - (l.length : Int) < 0) = false := by simp; omega
    go_enter Try.func9, Try.ntmps9
    go_wp2
    go_loopw [1, 5] (fun t i wr => ∃ (k : Nat) (r : Int), k ≤ l.length ∧ i = .int .i64 k ∧ t = .int .i64 r ∧ 0 ≤ r ∧ r + l.length ≤ left ∧ wr = w) (fun _ i _ => l.length - (intOf i).toNat)
    case atStart => exact ⟨0, _, Nat.zero_le _, rfl, rfl, by omega, by omega, rfl⟩
    case round =>
      obtain ⟨k, r, hk, rfl, rfl, r0, r1, hwr⟩ := hrel
      obtain rfl := hwr.symm
      by_cases hlt : k < l.length
      · obtain ⟨b, off, rfl, hb, hcells⟩ := HZ.out.cell (by omega)
        have c0 := hcells k hlt
        have hsz := HS.out l[k] (List.getElem_mem hlt)
        clear hcells
        generalize l[k] = D at *
        by_cases hq : (D.size : Int) ≤ r
        · have hdq : decide (r - (D.size : Int) < 0) = false := by simp; omega
          go_wp2
          go_roundw
          case rel => exact ⟨k + 1, r - (D.size : Int), by omega, by go_num, by go_num, by omega, by omega, by trivial⟩
          case measure => simp [intOf]; omega
        · have hdq : decide (r - (D.size : Int) < 0) = true := by simp; omega
          go_wp2
          go_ret
          exact ⟨⟨-1, rfl, by omega, by omega, fun h => by omega⟩, rfl⟩
      · go_wp2
        go_ret
        exact ⟨⟨r, rfl, by omega, by omega, fun _ => by omega⟩, rfl⟩
  · have hd : decide (left - (l.length : Int) < 0) = true := by simp; omega
    go_enter Try.func9, Try.ntmps9
    go_wp2
    go_ret
    exact ⟨⟨-1, rfl, by omega, by omega, fun h => by omega⟩, rfl⟩
theorem to_ownS (a : Option Addr) (cap : Nat) (l : List ByteArray) (w : World) (hn : l.length ≤ 1048576) (hI : Ss w.heap.size a l w) :
    Calls Try.prog 11 #[.slice a l.length cap] w fun e w' => ∃ b, e = .returned (.slice b l.length l.length) ∧ OwnS w.heap.size w'.heap.size b l w' ∧ Below w.heap.size w w' :=
  (toStringS_any a cap l w hn hI).mono fun _ _ ⟨he, hr, hb⟩ => ⟨_, he, Or.inr ⟨_, Nat.le_refl _, hr.lt, rfl, hr⟩, hb⟩
theorem to_ownP (a : Option Addr) (cap : Nat) (l : List Pk) (w : World) (hn : l.length ≤ 1048576) (hI : Ps w.heap.size a l w) :
    Calls Try.prog 19 #[.slice a l.length cap] w fun e w' => ∃ b, e = .returned (.slice b l.length l.length) ∧ OwnP w.heap.size w'.heap.size b l w' ∧ Below w.heap.size w w' :=
  (toPacketS_any a cap l w hn hI).mono fun _ _ ⟨he, hr, hb⟩ => ⟨_, he, Or.inr ⟨_, Nat.le_refl _, hr.lt, rfl, hr⟩, hb⟩
theorem kbox {w : World} {R : Nat} {o : Obj} (h : w.heap[R]? = some o) : R < w.heap.size := by
  obtain ⟨h1, _⟩ := Array.getElem?_eq_some_iff.1 h
  exact h1
end Go.Proofs.Ytnjeeeccfhpolaa
