/- Slices of numbers: held against each other, marks laid and held. -/
import Derived.Test.YtiionfmpbifbcaaHA
import Derived.Laws.MakeOwn
import Derived.Test.YtiionfmpbifbcaaChecked
import Derived.ProofKit
import Derived.RegionTactic
namespace Go.Proofs.Ytiionfmpbifbcaa
set_option maxRecDepth 100000
open Go.ChangeShapes Go.WideShapes Go.ChangeAt Go.RowKit
theorem take_snoc {α : Type} (l : List α) (k : Nat) (h : k < l.length) : l.take (k + 1) = l.take k ++ [l[k]] := List.take_succ_eq_append_getElem h
def imarks (n k : Nat) : List Int := (List.range n).map fun i => ((k + i : Nat) : Int)
theorem imarks_len (n k : Nat) : (imarks n k).length = n := by simp [imarks]
theorem imarks_at (n k i : Nat) (h : i < (imarks n k).length) : (imarks n k)[i] = ((k + i : Nat) : Int) := by simp [imarks]
set_option maxHeartbeats 1000000 in
theorem eqIntS_same (a1 a2 : Option Addr) (c1 c2 : Nat) (l : List Int) (w : World) (hn : l.length ≤ 1048576) (h1 : Is w.heap.size a1 l w) (h2 : Is w.heap.size a2 l w) :
    Calls Try.prog 16 #[.slice a1 l.length c1, .slice a2 l.length c2] w fun e w' => e = .returned (.bool true) ∧ Below w.heap.size w w' := by
  have H1 : Hid (Is w.heap.size a1 l w) := h1
  have H2 : Hid (Is w.heap.size a2 l w) := h2
  clear h1 h2
  go_enter Try.func16, Try.ntmps16
  go_wp2
  go_loopw [5] (fun i wr => ∃ k : Nat, k ≤ l.length ∧ i = .int .i64 k ∧ Below w.heap.size w wr) (fun i _ => l.length - (intOf i).toNat)
  case atStart => exact ⟨0, Nat.zero_le _, rfl, Below.refl _ _⟩
  case round =>
    obtain ⟨k, hk, rfl, hbel⟩ := hrel
    have HBEL : Hid (Below w.heap.size w wr) := hbel
    by_cases hlt : k < l.length
    · obtain ⟨b1, o1, rfl, hb1, hc1⟩ := H1.out.cell (by omega)
      obtain ⟨b2, o2, rfl, hb2, hc2⟩ := H2.out.cell (by omega)
      have x0 := (hbel.cell (p := ⟨b1, o1 + k, none⟩) hb1).trans (hc1 k hlt)
      have y0 := (hbel.cell (p := ⟨b2, o2 + k, none⟩) hb2).trans (hc2 k hlt)
      clear hc1 hc2 hbel
      generalize l[k] = n at *
      go_wp2
      go_region
      all_goals
        go_wp2
        go_roundw
        · exact ⟨k + 1, by omega, by go_num, HBEL.out.drew⟩
        · simp [intOf]; omega
    · clear hbel
      go_wp2
      go_ret
      exact ⟨rfl, HBEL.out⟩
set_option maxHeartbeats 1000000 in
theorem markIntS_row (R cap k0 : Nat) (l : List Int) (w : World) (hn : l.length ≤ 1048576) (k1 : 1 ≤ k0) (k2 : k0 ≤ 4611686018427387904) (hR : IRow R l w) :
    Calls Try.prog 18 #[.slice (some ⟨R, 0, none⟩) l.length cap, .int .i64 k0] w fun e w' => e = .returned (.int .i64 (k0 + l.length : Nat)) ∧ IRow R (imarks l.length k0) w' ∧ But R w w' := by
  have HR : Hid (IRow R l w) := hR
  clear hR
  go_enter Try.func18, Try.ntmps18
  go_wp2
  go_loopw [1, 5] (fun t i wr => ∃ (j : Nat) (ys : List Int), j ≤ l.length ∧ i = .int .i64 j ∧ t = .int .i64 (k0 + j : Nat) ∧ ys.length = l.length ∧ ys.take j = (imarks l.length k0).take j ∧ IRow R ys wr ∧ But R w wr) (fun _ i _ => l.length - (intOf i).toNat)
  case atStart => exact ⟨0, l, Nat.zero_le _, rfl, rfl, rfl, rfl, HR.out, But.refl _ _⟩
  case round =>
    obtain ⟨j, ys, hj, rfl, rfl, hy, htk, hrow, hbut⟩ := hrel
    have HROW : Hid (IRow R ys wr) := hrow
    have HBUT : Hid (But R w wr) := hbut
    have HTK : Hid (ys.take j = (imarks l.length k0).take j) := htk
    by_cases hlt : j < l.length
    · have y0 := hrow.cell j (by omega)
      have f0 := hrow.free j (by omega)
      clear hrow hbut htk
      generalize ys[j] = yd at *
      go_wp2
      go_roundw
      case rel =>
        refine ⟨j + 1, ys.set j ((k0 + j : Nat) : Int), by omega, by go_num, by go_num, by simpa using hy, ?_, HROW.out.set j (by omega) _, HBUT.out.setCell _ _⟩
        have hjy : j < ys.length := by omega
        have hjm : j < (imarks l.length k0).length := by rw [imarks_len]; exact hlt
        rw [take_snoc _ j (by simpa using hjy), take_snoc _ j hjm, List.take_set_of_le (Nat.le_refl _), HTK.out, List.getElem_set_self, imarks_at]
      case measure => simp [intOf]; omega
    · obtain rfl : j = l.length := by omega
      clear hrow hbut
      go_wp2
      go_ret
      rw [List.take_of_length_le (by omega), List.take_of_length_le (by rw [imarks_len]; omega)] at htk
      subst htk
      exact ⟨rfl, HROW.out, HBUT.out⟩
set_option maxHeartbeats 400000 in
theorem markIntS_none (a : Option Addr) (cap k0 : Nat) (w : World) :
    Calls Try.prog 18 #[.slice a 0 cap, .int .i64 k0] w fun e w' => e = .returned (.int .i64 k0) ∧ w' = w := by
  go_enter Try.func18, Try.ntmps18
  go_wp2
  go_loop [1, 5] (fun t i => t = .int .i64 k0 ∧ i = .int .i64 0) (fun _ _ => 0)
  case atStart => exact ⟨rfl, rfl⟩
  case round =>
    obtain ⟨rfl, rfl⟩ := hrel
    go_wp2
    go_ret
    exact ⟨rfl, rfl⟩
set_option maxHeartbeats 1000000 in
theorem heldIntS_row (a : Option Addr) (cap k0 n : Nat) (w : World) (hn : n ≤ 1048576) (k1 : 1 ≤ k0) (k2 : k0 ≤ 4611686018427387904) (hR : Is w.heap.size a (imarks n k0) w) :
    Calls Try.prog 19 #[.slice a n cap, .int .i64 k0] w fun e w' => e = .returned (.int .i64 (k0 + n : Nat)) ∧ Below w.heap.size w w' := by
  have HR : Hid (Is w.heap.size a (imarks n k0) w) := hR
  clear hR
  have hml := imarks_len n k0
  go_enter Try.func19, Try.ntmps19
  go_wp2
  go_loopw [1, 5] (fun t i wr => ∃ j : Nat, j ≤ n ∧ i = .int .i64 j ∧ t = .int .i64 (k0 + j : Nat) ∧ Below w.heap.size w wr) (fun _ i _ => n - (intOf i).toNat)
  case atStart => exact ⟨0, Nat.zero_le _, rfl, rfl, Below.refl _ _⟩
  case round =>
    obtain ⟨j, hj, rfl, rfl, hbel⟩ := hrel
    have HBEL : Hid (Below w.heap.size w wr) := hbel
    by_cases hlt : j < n
    · obtain ⟨b, o, rfl, hb, hc⟩ := HR.out.cell (by omega)
      have x0 := (hbel.cell (p := ⟨b, o + j, none⟩) hb).trans (hc j (by omega))
      rw [imarks_at] at x0
      clear hc hbel
      go_wp2
      go_roundw
      case rel => exact ⟨j + 1, by omega, by go_num, by go_num, HBEL.out⟩
      case measure => simp [intOf]; omega
    · obtain rfl : j = n := by omega
      clear hbel
      go_wp2
      go_ret
      exact ⟨rfl, HBEL.out⟩
theorem mark_ownI (lo hi : Nat) (a : Option Addr) (c : Nat) (l : List Int) (w : World) (hn : l.length ≤ 1048576) (k0 : Nat) (k1 : 1 ≤ k0) (k2 : k0 ≤ 4611686018427387904) (h : OwnI lo hi a l w) :
    Calls Try.prog 18 #[.slice a l.length c, .int .i64 k0] w fun e w' => e = .returned (.int .i64 (k0 + l.length : Nat)) ∧ OwnI lo hi a (imarks l.length k0) w' ∧ Out lo hi w w' := by
  rcases h with rfl | ⟨R, h1, h3, rfl, hr⟩
  · exact (markIntS_none a c k0 w).mono fun e w' ⟨he, hb⟩ => ⟨he, Or.inl rfl, by subst hb; exact Out.refl _ _ _⟩
  · exact (markIntS_row R c k0 l w hn k1 k2 hr).mono fun e w' ⟨he, hrow, hb⟩ => ⟨he, Or.inr ⟨R, h1, h3, rfl, hrow⟩, Out.ofBut hb h1 h3⟩
theorem held_ownI (lo hi : Nat) (a : Option Addr) (c n : Nat) (w : World) (hn : n ≤ 1048576) (h : OwnI lo hi a (imarks n 1) w) :
    Calls Try.prog 19 #[.slice a n c, .int .i64 1] w fun e w' => e = .returned (.int .i64 (1 + n : Nat)) ∧ Below w.heap.size w w' :=
  heldIntS_row a c 1 n w hn (by omega) (by omega) h.is
theorem infoI : (Try.prog.info? 3).map (fun i => (i.zero, i.size, i.bytes)) = some (some (.int .i64 0), 1, 8) := by kernel_rfl
theorem make_ints (n : Nat) (hn : n ≤ 1048576) (W : World) : (Instr.makeSlice 34 (.int .i64 (n : Int)) (.int .i64 (n : Int))).run Try.prog W =
    .ok (.slice (some ⟨W.heap.size, 0, none⟩) n n) (W.alloc (.cells (madeCells (Value.int .i64 0).cells n) 3)) := by
  obtain ⟨i0, hi, hz0, hz1, hz2⟩ := info_parts infoI
  have h := run_make (P := Try.prog) W 34 3 i0 _ Try.underlying34 hi hz0 .i64 .i64 (n : Int) (n : Int) (by omega) (by omega) (by rw [hz2]; omega) (by omega)
  rw [hz1] at h
  simpa using h
theorem IRow.made (w : World) (n : Nat) : IRow w.heap.size (List.replicate n 0) (w.alloc (.cells (madeCells (Value.int .i64 0).cells n) 3)) := by
  have := GRow.made w 3 n #[.int .i64 0]
  unfold IRow
  rw [List.map_replicate]
  have e : (#[Value.int .i64 0] : Array Value).size = 1 := rfl
  rw [e, Nat.mul_one] at this
  exact this
set_option maxHeartbeats 1000000 in
theorem to_ownI (a : Option Addr) (cap : Nat) (l : List Int) (w : World) (hn : l.length ≤ 1048576) (hI : Is w.heap.size a l w) :
    Calls Try.prog 80 #[.slice a l.length cap] w fun e w' => ∃ b c, e = .returned (.slice b l.length c) ∧ OwnI w.heap.size w'.heap.size b l w' ∧ Below w.heap.size w w' := by
  have HI : Hid (Is w.heap.size a l w) := hI
  clear hI
  have hmk := make_ints l.length hn
  have hr0 := IRow.made w l.length
  generalize madeCells (Value.int .i64 0).cells l.length = M at *
  have HR : Hid (IRow w.heap.size (List.replicate l.length 0) (w.alloc (.cells M 3))) := hr0
  clear hr0
  go_enter Try.func80, Try.ntmps80
  go_wp2
  go_loopw [4] (fun i wr => ∃ (k : Nat) (ys : List Int), k ≤ l.length ∧ i = .int .i64 k ∧ ys.length = l.length ∧ ys.take k = l.take k ∧ IRow w.heap.size ys wr ∧ Below w.heap.size w wr) (fun i _ => l.length - (intOf i).toNat)
  case atStart => exact ⟨0, List.replicate l.length 0, Nat.zero_le _, rfl, by simp, rfl, HR.out, (Below.refl _ _).alloc (Nat.le_refl _) _⟩
  case round =>
    obtain ⟨k, ys, hk, rfl, hy, htk, hrow, hbel⟩ := hrel
    have HROW : Hid (IRow w.heap.size ys wr) := hrow
    have HBEL : Hid (Below w.heap.size w wr) := hbel
    have HTK : Hid (ys.take k = l.take k) := htk
    by_cases hlt : k < l.length
    · obtain ⟨b, off, rfl, hb, hc⟩ := HI.out.cell (by omega)
      have x0 := (hbel.cell (p := ⟨b, off + k, none⟩) hb).trans (hc k hlt)
      have y0 := hrow.cell k (by omega)
      have f0 := hrow.free k (by omega)
      clear hrow hbel htk hc
      go_wp2
      go_roundw
      case rel =>
        refine ⟨k + 1, ys.set k l[k], by omega, by go_num, by simpa using hy, ?_, HROW.out.set k (by omega) _, HBEL.out.setCell (Nat.le_refl _) _⟩
        have hky : k < ys.length := by omega
        rw [take_snoc _ k (by simpa using hky), take_snoc l k hlt, List.take_set_of_le (Nat.le_refl _), HTK.out, List.getElem_set_self]
      case measure => simp [intOf]; omega
    · obtain rfl : k = l.length := by omega
      rw [List.take_length, List.take_of_length_le (by omega)] at htk
      subst htk
      clear hrow hbel
      go_wp2
      go_ret
      have hO : OwnI w.heap.size wr.heap.size (some ⟨w.heap.size, 0, none⟩) ys wr := Or.inr ⟨_, Nat.le_refl _, HROW.out.lt, rfl, HROW.out⟩
      first
        | exact ⟨_, _, rfl, hO, HBEL.out⟩
        | exact ⟨_, ⟨_, rfl⟩, hO, HBEL.out⟩
        | exact ⟨hO, HBEL.out⟩
end Go.Proofs.Ytiionfmpbifbcaa
