/- Parts measured: how many they are, and their texts. -/
import Derived.Test.YtakhohabjcgpoabTPm
import Derived.Test.YtakhohabjcgpoabVBase
namespace Go.Proofs.Ytakhohabjcgpoab
set_option maxRecDepth 100000
open Go Go.ChangeShapes Go.WideShapes Go.ChangeAt Go.RowKit
set_option maxHeartbeats 1000000 in
theorem szPartS_all (a : Option Addr) (cap : Nat) (l : List Pt) (left : Int) (w : World) (h0 : 0 ≤ left) (h1 : left ≤ 1048576) (hz : ∀ r ∈ l, r.tx.size ≤ 9223372036854775807) (hn : l.length ≤ 9223372036854775807) (hZ : Pts w.heap.size a l w) :
    Calls Try.prog 5 #[.slice a l.length cap, .int .i64 left] w fun e w' => (∃ r : Int, e = .returned (.int .i64 r) ∧ r ≤ 1048576 ∧ (0 ≤ r → l.length ≤ 1048576 ∧ ∀ x ∈ l, x.tx.size ≤ 1048576)) ∧ Below w.heap.size w w' := by
  have HZ : Hid (Pts w.heap.size a l w) := hZ
  have HS : Hid (∀ r ∈ l, r.tx.size ≤ 9223372036854775807) := hz
  clear hZ hz
  by_cases g : (l.length : Int) ≤ left
  · have hd : decide (left - (l.length : Int) < 0) = false := by simp; omega
    have hl : l.length ≤ 1048576 := by omega
    go_enter Try.func5, Try.ntmps5
    go_wp2
    go_loopw [1, 5] (fun t i wr => ∃ (k : Nat) (r : Int), k ≤ l.length ∧ i = .int .i64 k ∧ t = .int .i64 r ∧ 0 ≤ r ∧ r ≤ 1048576 ∧ (∀ j (hj : j < l.length), j < k → l[j].tx.size ≤ 1048576) ∧ Below w.heap.size w wr) (fun _ i _ => l.length - (intOf i).toNat)
    case atStart => exact ⟨0, _, Nat.zero_le _, rfl, rfl, by omega, by omega, (fun _ _ h => absurd h (Nat.not_lt_zero _)), Below.refl _ _⟩
    case round =>
      obtain ⟨k, r, hk, rfl, rfl, r0, r1, hall, hbel⟩ := hrel
      have HALL := hid hall
      have HBEL : Hid (Below w.heap.size w wr) := hbel
      clear hbel hall
      by_cases hlt : k < l.length
      · obtain ⟨b, off, rfl, hb, hcells⟩ := HZ.out.cell (by omega)
        obtain ⟨c0, c1, c2⟩ := hcells k hlt
        have hb' : ∀ o, wr.cell? ⟨b, o, none⟩ = w.cell? ⟨b, o, none⟩ := fun o => HBEL.out.cell (p := ⟨b, o, none⟩) hb
        rw [← hb'] at c0 c1 c2
        clear hcells hb'
        have hsz := HS.out l[k] (List.getElem_mem hlt)
        have HC9 : Hid (∀ v, Calls Try.prog 14 #[.agg #[.int .i64 l[k].fr, .int .i64 l[k].lg, .string l[k].tx], .int .i64 r] v fun e w' => (∃ r : Int, e = .returned (.int .i64 r) ∧ r ≤ 1048576 ∧ (0 ≤ r → l[k].tx.size ≤ 1048576)) ∧ Below v.heap.size v w') := fun v => szPart_any _ _ _ r v r0 r1 (by omega)
        have HNX : Hid (l[k].tx.size ≤ 1048576 → ∀ j (hj : j < l.length), j < k + 1 → l[j].tx.size ≤ 1048576) := fun h j hj hjk => by
          by_cases e : j = k
          · subst e; exact h
          · exact HALL.out j hj (by omega)
        generalize l[k] = z at *
        obtain ⟨zk, zp, D⟩ := z
        have hsz' : D.size ≤ 9223372036854775807 := hsz
        have HC' := HC9
        clear hsz hsz'
        simp only at c0 c1 c2
        go_wp2_with fail
        refine (HC'.out _).mono ?_
        rintro e w1 ⟨⟨q, rfl, q1, hq⟩, b1⟩
        have HB1 : Hid (Below w.heap.size w w1) := HBEL.out.trans (b1.mono HBEL.out.size)
        clear b1
        by_cases hq0 : 0 ≤ q
        · have hdq : decide (q < 0) = false := by simp; omega
          have HD := hid (HNX.out (hq hq0))
          clear hq
          go_wp2
          go_roundw
          case rel => exact ⟨k + 1, q, by omega, by go_num, rfl, hq0, q1, HD.out, HB1.out⟩
          case measure => simp [intOf]; omega
        · have hdq : decide (q < 0) = true := by simp; omega
          clear hq
          go_wp2
          go_ret
          exact ⟨⟨-1, rfl, by omega, fun h => by omega⟩, HB1.out⟩
      · have HW : Hid (∀ x ∈ l, x.tx.size ≤ 1048576) := fun x hx => by
          obtain ⟨j, hj, rfl⟩ := List.getElem_of_mem hx
          exact HALL.out j hj (by omega)
        go_wp2
        go_ret
        exact ⟨⟨r, rfl, r1, fun _ => ⟨hl, HW.out⟩⟩, HBEL.out⟩
  · have hd : decide (left - (l.length : Int) < 0) = true := by simp; omega
    go_enter Try.func5, Try.ntmps5
    go_wp2
    go_ret
    exact ⟨⟨-1, rfl, by omega, fun h => by omega⟩, Below.refl _ _⟩
end Go.Proofs.Ytakhohabjcgpoab
