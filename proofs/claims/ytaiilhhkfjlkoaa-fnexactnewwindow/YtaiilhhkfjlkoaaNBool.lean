/- Slices of truth values: held against each other, made over. -/
import Derived.Test.YtaiilhhkfjlkoaaBoolR
import Derived.Test.YtaiilhhkfjlkoaaKInt
import Derived.Test.YtaiilhhkfjlkoaaVBase
namespace Go.Proofs.Ytaiilhhkfjlkoaa
set_option maxRecDepth 100000
open Go.ChangeShapes Go.WideShapes Go.ChangeAt Go.RowKit
set_option maxHeartbeats 1000000 in
theorem eqBoolS_same (a1 a2 : Option Addr) (c1 c2 : Nat) (l : List Bool) (w : World) (hn : l.length ≤ 1048576) (h1 : Bs w.heap.size a1 l w) (h2 : Bs w.heap.size a2 l w) :
    Calls Try.prog 29 #[.slice a1 l.length c1, .slice a2 l.length c2] w fun e w' => e = .returned (.bool true) ∧ Below w.heap.size w w' := by
  have H1 : Hid (Bs w.heap.size a1 l w) := h1
  have H2 : Hid (Bs w.heap.size a2 l w) := h2
  clear h1 h2
  go_enter Try.func29, Try.ntmps29
  go_wp2
  go_loopw [5] (fun i wr => ∃ k : Nat, k ≤ l.length ∧ i = .int .i64 k ∧ Below w.heap.size w wr) (fun i _ => l.length - (intOf i).toNat)
  case atStart => exact ⟨0, Nat.zero_le _, rfl, Below.refl _ _⟩
  case round =>
    obtain ⟨k, hk, rfl, hbel⟩ := hrel
    have HBEL : Hid (Below w.heap.size w wr) := hbel
    by_cases hlt : k < l.length
    · obtain ⟨b1, o1, rfl, hb1, hc1⟩ := H1.out.cell (by omega)
      obtain ⟨b2, o2, rfl, hb2, hc2⟩ := H2.out.cell (by omega)
      have x0 := (hbel.cell (p := ⟨b1, o1 + k, none⟩) hb1).trans (hc1 k hlt)
      have y0 := (hbel.cell (p := ⟨b2, o2 + k, none⟩) hb2).trans (hc2 k hlt)
      clear hc1 hc2 hbel
      generalize l[k] = n at *
      go_wp2
      go_region
      all_goals
        go_wp2
        go_roundw
        · exact ⟨k + 1, by omega, by go_num, HBEL.out.drew⟩
        · simp [intOf]; omega
    · clear hbel
      go_wp2
      go_ret
      exact ⟨rfl, HBEL.out⟩
theorem infoB : (Try.prog.info? 4).map (fun i => (i.zero, i.size, i.bytes)) = some (some (.bool false), 1, 1) := by kernel_rfl
theorem make_bools (n : Nat) (hn : n ≤ 1048576) (W : World) : (Instr.makeSlice 24 (.int .i64 (n : Int)) (.int .i64 (n : Int))).run Try.prog W =
    .ok (.slice (some ⟨W.heap.size, 0, none⟩) n n) (W.alloc (.cells (madeCells (Value.bool false).cells n) 4)) := by
  obtain ⟨i0, hi, hz0, hz1, hz2⟩ := info_parts infoB
  have h := run_make (P := Try.prog) W 24 4 i0 _ Try.underlying24 hi hz0 .i64 .i64 (n : Int) (n : Int) (by omega) (by omega) (by rw [hz2]; omega) (by omega)
  rw [hz1] at h
  simpa using h
theorem BRow.made (w : World) (n : Nat) : BRow w.heap.size (List.replicate n false) (w.alloc (.cells (madeCells (Value.bool false).cells n) 4)) := by
  have := GRow.made w 4 n #[.bool false]
  unfold BRow
  rw [List.map_replicate]
  have e : (#[Value.bool false] : Array Value).size = 1 := rfl
  rw [e, Nat.mul_one] at this
  exact this
set_option maxHeartbeats 1000000 in
theorem to_ownB (a : Option Addr) (cap : Nat) (l : List Bool) (w : World) (hn : l.length ≤ 1048576) (hI : Bs w.heap.size a l w) :
    Calls Try.prog 51 #[.slice a l.length cap] w fun e w' => ∃ b, e = .returned (.slice b l.length l.length) ∧ OwnB w.heap.size w'.heap.size b l w' ∧ Below w.heap.size w w' := by
  have HI : Hid (Bs w.heap.size a l w) := hI
  clear hI
  have hmk := make_bools l.length hn
  have hr0 := BRow.made w l.length
  generalize madeCells (Value.bool false).cells l.length = M at *
  have HR : Hid (BRow w.heap.size (List.replicate l.length false) (w.alloc (.cells M 4))) := hr0
  clear hr0
  go_enter Try.func51, Try.ntmps51
  go_wp2
  go_loopw [4] (fun i wr => ∃ (k : Nat) (ys : List Bool), k ≤ l.length ∧ i = .int .i64 k ∧ ys.length = l.length ∧ ys.take k = l.take k ∧ BRow w.heap.size ys wr ∧ Below w.heap.size w wr) (fun i _ => l.length - (intOf i).toNat)
  case atStart => exact ⟨0, List.replicate l.length false, Nat.zero_le _, rfl, by simp, rfl, HR.out, (Below.refl _ _).alloc (Nat.le_refl _) _⟩
  case round =>
    obtain ⟨k, ys, hk, rfl, hy, htk, hrow, hbel⟩ := hrel
    have HROW : Hid (BRow w.heap.size ys wr) := hrow
    have HBEL : Hid (Below w.heap.size w wr) := hbel
    have HTK : Hid (ys.take k = l.take k) := htk
    by_cases hlt : k < l.length
    · obtain ⟨b, off, rfl, hb, hc⟩ := HI.out.cell (by omega)
      have x0 := (hbel.cell (p := ⟨b, off + k, none⟩) hb).trans (hc k hlt)
      have y0 := hrow.cell k (by omega)
      have f0 := hrow.free k (by omega)
      clear hrow hbel htk hc
      go_wp2
      go_roundw
      case rel =>
        refine ⟨k + 1, ys.set k l[k], by omega, by go_num, by simpa using hy, ?_, HROW.out.set k (by omega) _, HBEL.out.setCell (Nat.le_refl _) _⟩
        have hky : k < ys.length := by omega
        rw [take_snoc _ k (by simpa using hky), take_snoc l k hlt, List.take_set_of_le (Nat.le_refl _), HTK.out, List.getElem_set_self]
      case measure => simp [intOf]; omega
    · obtain rfl : k = l.length := by omega
      rw [List.take_length, List.take_of_length_le (by omega)] at htk
      subst htk
      clear hrow hbel
      go_wp2
      go_ret
      have hO : OwnB w.heap.size wr.heap.size (some ⟨w.heap.size, 0, none⟩) ys wr := Or.inr ⟨_, Nat.le_refl _, HROW.out.lt, rfl, HROW.out⟩
      first
        | exact ⟨_, rfl, hO, HBEL.out⟩
        | exact ⟨hO, HBEL.out⟩
def bmk (k : Nat) : Bool := (k : Int) % 3 == 0
def bmarks (n k : Nat) : List Bool := (List.range n).map fun i => bmk (k + i)
theorem bmarks_len (n k : Nat) : (bmarks n k).length = n := by simp [bmarks]
theorem bmarks_at (n k i : Nat) (h : i < (bmarks n k).length) : (bmarks n k)[i] = bmk (k + i) := by simp [bmarks]
set_option maxHeartbeats 1000000 in
theorem markBoolS_row (R cap k0 : Nat) (l : List Bool) (w : World) (hn : l.length ≤ 1048576) (k1 : 1 ≤ k0) (k2 : k0 ≤ 4611686018427387904) (hR : BRow R l w) :
    Calls Try.prog 32 #[.slice (some ⟨R, 0, none⟩) l.length cap, .int .i64 k0] w fun e w' => e = .returned (.int .i64 (k0 + l.length : Nat)) ∧ BRow R (bmarks l.length k0) w' ∧ But R w w' := by
  have HR : Hid (BRow R l w) := hR
  clear hR
  go_enter Try.func32, Try.ntmps32
  go_wp2
  go_loopw [1, 5] (fun t i wr => ∃ (j : Nat) (ys : List Bool), j ≤ l.length ∧ i = .int .i64 j ∧ t = .int .i64 (k0 + j : Nat) ∧ ys.length = l.length ∧ ys.take j = (bmarks l.length k0).take j ∧ BRow R ys wr ∧ But R w wr) (fun _ i _ => l.length - (intOf i).toNat)
  case atStart => exact ⟨0, l, Nat.zero_le _, rfl, rfl, rfl, rfl, HR.out, But.refl _ _⟩
  case round =>
    obtain ⟨j, ys, hj, rfl, rfl, hy, htk, hrow, hbut⟩ := hrel
    have HROW : Hid (BRow R ys wr) := hrow
    have HBUT : Hid (But R w wr) := hbut
    have HTK : Hid (ys.take j = (bmarks l.length k0).take j) := htk
    by_cases hlt : j < l.length
    · have y0 := hrow.cell j (by omega)
      have f0 := hrow.free j (by omega)
      clear hrow hbut htk
      generalize ys[j] = yd at *
      go_wp2_with fail
      go_roundw
      case rel =>
        refine ⟨j + 1, ys.set j (bmk (k0 + j)), by omega, by go_num, by go_num, by simpa using hy, ?_, HROW.out.set j (by omega) _, HBUT.out.setCell _ _⟩
        have hjy : j < ys.length := by omega
        have hjm : j < (bmarks l.length k0).length := by rw [bmarks_len]; exact hlt
        rw [take_snoc _ j (by simpa using hjy), take_snoc _ j hjm, List.take_set_of_le (Nat.le_refl _), HTK.out, List.getElem_set_self, bmarks_at]
      case measure => simp [intOf]; omega
    · obtain rfl : j = l.length := by omega
      clear hrow hbut
      go_wp2
      go_ret
      rw [List.take_of_length_le (by omega), List.take_of_length_le (by rw [bmarks_len]; omega)] at htk
      subst htk
      exact ⟨rfl, HROW.out, HBUT.out⟩
set_option maxHeartbeats 400000 in
theorem markBoolS_none (a : Option Addr) (cap k0 : Nat) (w : World) :
    Calls Try.prog 32 #[.slice a 0 cap, .int .i64 k0] w fun e w' => e = .returned (.int .i64 k0) ∧ w' = w := by
  go_enter Try.func32, Try.ntmps32
  go_wp2
  go_loop [1, 5] (fun t i => t = .int .i64 k0 ∧ i = .int .i64 0) (fun _ _ => 0)
  case atStart => exact ⟨rfl, rfl⟩
  case round =>
    obtain ⟨rfl, rfl⟩ := hrel
    go_wp2
    go_ret
    exact ⟨rfl, rfl⟩
set_option maxHeartbeats 1000000 in
theorem heldBoolS_row (a : Option Addr) (cap k0 n : Nat) (w : World) (hn : n ≤ 1048576) (k1 : 1 ≤ k0) (k2 : k0 ≤ 4611686018427387904) (hR : Bs w.heap.size a (bmarks n k0) w) :
    Calls Try.prog 33 #[.slice a n cap, .int .i64 k0] w fun e w' => e = .returned (.int .i64 (k0 + n : Nat)) ∧ Below w.heap.size w w' := by
  have HR : Hid (Bs w.heap.size a (bmarks n k0) w) := hR
  clear hR
  have hml := bmarks_len n k0
  go_enter Try.func33, Try.ntmps33
  go_wp2
  go_loopw [1, 5] (fun t i wr => ∃ j : Nat, j ≤ n ∧ i = .int .i64 j ∧ t = .int .i64 (k0 + j : Nat) ∧ Below w.heap.size w wr) (fun _ i _ => n - (intOf i).toNat)
  case atStart => exact ⟨0, Nat.zero_le _, rfl, rfl, Below.refl _ _⟩
  case round =>
    obtain ⟨j, hj, rfl, rfl, hbel⟩ := hrel
    have HBEL : Hid (Below w.heap.size w wr) := hbel
    by_cases hlt : j < n
    · obtain ⟨b, o, rfl, hb, hc⟩ := HR.out.cell (by omega)
      have x0 := (hbel.cell (p := ⟨b, o + j, none⟩) hb).trans (hc j (by omega))
      have hbv : bmk (k0 + j) = (((k0 : Int) + (j : Int)) % 3 == 0) := by
        unfold bmk
        rw [Int.natCast_add]
      rw [bmarks_at, hbv] at x0
      clear hc hbel hbv
      cases hbb : (((k0 : Int) + (j : Int)) % 3 == 0)
      · rw [hbb] at x0
        go_wp2_with fail
        go_roundw
        case rel => exact ⟨j + 1, by omega, by go_num, by go_num, HBEL.out⟩
        case measure => simp [intOf]; omega
      · rw [hbb] at x0
        go_wp2_with fail
        go_roundw
        case rel => exact ⟨j + 1, by omega, by go_num, by go_num, HBEL.out⟩
        case measure => simp [intOf]; omega
    · obtain rfl : j = n := by omega
      clear hbel
      go_wp2
      go_ret
      exact ⟨rfl, HBEL.out⟩
end Go.Proofs.Ytaiilhhkfjlkoaa
