/- Walks of the laws' helpers over devices: how great they are. -/
import Derived.Test.YtbalahgfikeobasG
namespace Go.Proofs.Ytbalahgfikeobas
set_option maxRecDepth 100000
open Go.ChangeShapes Go.WideShapes Go.ChangeAt Go.RowKit
set_option maxHeartbeats 400000 in
theorem szZone_any (z : Zn) (left : Int) (w : World) (h0 : 0 ≤ left) (h1 : left ≤ 1048576) (hz : z.data.size ≤ 9223372036854775807) :
    Calls Try.prog 44 #[.agg #[.string z.data, .int .i64 z.sure, .bool z.full], .int .i64 left] w fun e w' => (∃ r : Int, e = .returned (.int .i64 r) ∧ r ≤ 1048576 ∧ (0 ≤ r → z.data.size ≤ 1048576)) ∧ Below w.heap.size w w' := by
  obtain ⟨dd, ss, ff⟩ := z
  have hz2 : dd.size ≤ 9223372036854775807 := hz
  clear hz
  by_cases g : (dd.size : Int) ≤ left
  · have hd : decide (left - (dd.size : Int) < 0) = false := by simp; omega
    go_enter Try.func44, Try.ntmps44
    go_wp2
    go_ret
    exact ⟨⟨_, rfl, by omega, fun _ => by show dd.size ≤ _; omega⟩, (Below.refl _ _).alloc (Nat.le_refl _) _⟩
  · have hd : decide (left - (dd.size : Int) < 0) = true := by simp; omega
    go_enter Try.func44, Try.ntmps44
    go_wp2
    go_ret
    exact ⟨⟨-1, rfl, by omega, fun h => by omega⟩, (Below.refl _ _).alloc (Nat.le_refl _) _⟩
set_option maxHeartbeats 1000000 in
theorem szZoneS_any (a : Option Addr) (cap : Nat) (zs : List Zn) (w : World) (hz : ∀ z ∈ zs, z.data.size ≤ 9223372036854775807) (hn : zs.length ≤ 9223372036854775807) (hZ : Zs w.heap.size a zs w) :
    Calls Try.prog 27 #[.slice a zs.length cap, .int .i64 1048576] w fun e w' => (∃ r : Int, e = .returned (.int .i64 r) ∧ r ≤ 1048576 ∧ (0 ≤ r → zs.length ≤ 1048576 ∧ ∀ z ∈ zs, z.data.size ≤ 1048576)) ∧ Below w.heap.size w w' := by
  have HZ : Hid (Zs w.heap.size a zs w) := hZ
  have HS : Hid (∀ z ∈ zs, z.data.size ≤ 9223372036854775807) := hz
  clear hZ hz
  by_cases g : zs.length ≤ 1048576
  · have hd : decide ((1048576 : Int) - (zs.length : Int) < 0) = false := by simp; omega
    go_enter Try.func27, Try.ntmps27
    go_wp2
    go_loopw [1, 5] (fun t i wr => ∃ (k : Nat) (r : Int), k ≤ zs.length ∧ i = .int .i64 k ∧ t = .int .i64 r ∧ 0 ≤ r ∧ r ≤ 1048576 ∧ (∀ j (hj : j < zs.length), j < k → zs[j].data.size ≤ 1048576) ∧ Below w.heap.size w wr) (fun _ i _ => zs.length - (intOf i).toNat)
    case atStart => exact ⟨0, _, Nat.zero_le _, rfl, rfl, by omega, by omega, fun _ _ h => absurd h (Nat.not_lt_zero _), Below.refl _ _⟩
    case round =>
      obtain ⟨k, r, hk, rfl, rfl, r0, r1, hall, hbel⟩ := hrel
      have HALL : Hid (∀ j (hj : j < zs.length), j < k → zs[j].data.size ≤ 1048576) := hall
      have HBEL : Hid (Below w.heap.size w wr) := hbel
      clear hall hbel
      by_cases hlt : k < zs.length
      · obtain ⟨b, off, rfl, hb, hcells⟩ := HZ.out.cell (by omega)
        obtain ⟨c0, c1, c2⟩ := hcells k hlt
        have hb' : ∀ o, wr.cell? ⟨b, o, none⟩ = w.cell? ⟨b, o, none⟩ := fun o => HBEL.out.cell (p := ⟨b, o, none⟩) hb
        rw [← hb'] at c0 c1 c2
        clear hcells hb'
        have hsz := HS.out zs[k] (List.getElem_mem hlt)
        have HC := fun v => szZone_any zs[k] r v r0 r1 hsz
        have HL : Hid (zs[k].data.size ≤ 1048576 → ∀ j (hj : j < zs.length), j < k + 1 → zs[j].data.size ≤ 1048576) := fun h j hj hjk => by
          by_cases e : j = k
          · subst e; exact h
          · exact HALL.out j hj (by omega)
        generalize zs[k] = z at *
        obtain ⟨dd, ss, ff⟩ := z
        have HC' : Hid (∀ v, Calls Try.prog 44 #[.agg #[.string dd, .int .i64 ss, .bool ff], .int .i64 r] v fun e w' => (∃ r : Int, e = .returned (.int .i64 r) ∧ r ≤ 1048576 ∧ (0 ≤ r → dd.size ≤ 1048576)) ∧ Below v.heap.size v w') := HC
        have HL' : Hid (dd.size ≤ 1048576 → ∀ j (hj : j < zs.length), j < k + 1 → zs[j].data.size ≤ 1048576) := HL
        clear HC HL hsz
        simp only at c0 c1 c2
        go_wp2_with fail
        refine (HC'.out _).mono ?_
        rintro e w1 ⟨⟨q, rfl, q1, hq⟩, b1⟩
        have HB1 : Hid (Below w.heap.size w w1) := HBEL.out.trans (b1.mono HBEL.out.size)
        clear b1
        by_cases hq0 : 0 ≤ q
        · have hdq : decide (q < 0) = false := by simp; omega
          have HL2 : Hid (∀ j (hj : j < zs.length), j < k + 1 → zs[j].data.size ≤ 1048576) := HL'.out (hq hq0)
          clear hq HL'
          go_wp2
          go_roundw
          case rel => exact ⟨k + 1, q, by omega, by go_num, rfl, hq0, q1, HL2.out, HB1.out⟩
          case measure => simp [intOf]; omega
        · have hdq : decide (q < 0) = true := by simp; omega
          clear hq HL'
          go_wp2
          go_ret
          exact ⟨⟨-1, rfl, by omega, fun h => by omega⟩, HB1.out⟩
      · go_wp2
        go_ret
        exact ⟨⟨r, rfl, r1, fun _ => ⟨g, fun z hz => by obtain ⟨j, hj, rfl⟩ := List.getElem_of_mem hz; exact HALL.out j hj (by omega)⟩⟩, HBEL.out⟩
  · have hd : decide ((1048576 : Int) - (zs.length : Int) < 0) = true := by simp; omega
    go_enter Try.func27, Try.ntmps27
    go_wp2
    go_ret
    exact ⟨⟨-1, rfl, by omega, fun h => by omega⟩, Below.refl _ _⟩
set_option maxHeartbeats 400000 in
theorem szDevice_any (a : Option Addr) (cap : Nat) (zs : List Zn) (w : World) (hz : ∀ z ∈ zs, z.data.size ≤ 9223372036854775807) (hn : zs.length ≤ 9223372036854775807) (hZ : Zs w.heap.size a zs w) :
    Calls Try.prog 8 #[.agg #[.slice a zs.length cap], .int .i64 1048576] w fun e w' => (∃ r : Int, e = .returned (.int .i64 r) ∧ (0 ≤ r → zs.length ≤ 1048576 ∧ ∀ z ∈ zs, z.data.size ≤ 1048576)) ∧ Below w.heap.size w w' := by
  have HC : Hid (Calls Try.prog 27 #[.slice a zs.length cap, .int .i64 1048576] (w.alloc (.cells #[.slice a zs.length cap] 24)) fun e w' => (∃ r : Int, e = .returned (.int .i64 r) ∧ r ≤ 1048576 ∧ (0 ≤ r → zs.length ≤ 1048576 ∧ ∀ z ∈ zs, z.data.size ≤ 1048576)) ∧ Below (w.alloc (.cells #[.slice a zs.length cap] 24)).heap.size (w.alloc (.cells #[.slice a zs.length cap] 24)) w') :=
    szZoneS_any a cap zs _ hz hn ((hZ.below ((Below.refl _ _).alloc (Nat.le_refl _) _)).mono (by simp))
  clear hZ hz
  go_enter Try.func8, Try.ntmps8
  go_wp2_with fail
  refine (HC.out).mono ?_
  rintro e w1 ⟨⟨r, rfl, r1, hr⟩, b1⟩
  have HB1 : Hid (Below w.heap.size w w1) := ((Below.refl _ _).alloc (Nat.le_refl _) _).trans (b1.mono (by simp))
  have HR : Hid (0 ≤ r → zs.length ≤ 1048576 ∧ ∀ z ∈ zs, z.data.size ≤ 1048576) := hr
  clear b1 hr HC
  by_cases hq0 : 0 ≤ r
  · have hdq : decide (r < 0) = false := by simp; omega
    go_wp2
    go_ret
    exact ⟨⟨r, rfl, HR.out⟩, HB1.out⟩
  · have hdq : decide (r < 0) = true := by simp; omega
    go_wp2
    go_ret
    exact ⟨⟨-1, rfl, fun h => by omega⟩, HB1.out⟩
end Go.Proofs.Ytbalahgfikeobas
