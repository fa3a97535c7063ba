/- Slices of texts: held against each other, marks laid and held. -/
import Derived.Test.YtiionfmpbifbcaaHA
import Derived.Test.YtiionfmpbifbcaaMarkT
import Derived.Test.YtiionfmpbifbcaaKInt
import Derived.Deep.RegionWith
import Derived.RegionTactic
namespace Go.Proofs.Ytiionfmpbifbcaa
set_option maxRecDepth 100000
open Go.ChangeShapes Go.WideShapes Go.ChangeAt Go.RowKit
def smarks (n k : Nat) : List ByteArray := (List.range n).map fun (i : Nat) => markT (k + i)
theorem smarks_len (n k : Nat) : (smarks n k).length = n := by simp [smarks]
theorem smarks_at (n k i : Nat) (h : i < (smarks n k).length) : (smarks n k)[i] = markT (k + i) := by simp [smarks]
set_option maxHeartbeats 1000000 in
theorem eqStringS_same (a1 a2 : Option Addr) (c1 c2 : Nat) (l : List ByteArray) (w : World) (hn : l.length ≤ 1048576) (h1 : Ss w.heap.size a1 l w) (h2 : Ss w.heap.size a2 l w) :
    Calls Try.prog 25 #[.slice a1 l.length c1, .slice a2 l.length c2] w fun e w' => e = .returned (.bool true) ∧ Below w.heap.size w w' := by
  have H1 : Hid (Ss w.heap.size a1 l w) := h1
  have H2 : Hid (Ss w.heap.size a2 l w) := h2
  clear h1 h2
  go_enter Try.func25, Try.ntmps25
  go_wp2
  go_loopw [5] (fun i wr => ∃ k : Nat, k ≤ l.length ∧ i = .int .i64 k ∧ Below w.heap.size w wr) (fun i _ => l.length - (intOf i).toNat)
  case atStart => exact ⟨0, Nat.zero_le _, rfl, Below.refl _ _⟩
  case round =>
    obtain ⟨k, hk, rfl, hbel⟩ := hrel
    have HBEL : Hid (Below w.heap.size w wr) := hbel
    by_cases hlt : k < l.length
    · obtain ⟨b1, o1, rfl, hb1, hc1⟩ := H1.out.cell (by omega)
      obtain ⟨b2, o2, rfl, hb2, hc2⟩ := H2.out.cell (by omega)
      have x0 := (hbel.cell (p := ⟨b1, o1 + k, none⟩) hb1).trans (hc1 k hlt)
      have y0 := (hbel.cell (p := ⟨b2, o2 + k, none⟩) hb2).trans (hc2 k hlt)
      clear hc1 hc2 hbel
      generalize l[k] = n at *
      go_wp2
      go_region
      all_goals
        go_wp2
        go_roundw
        · exact ⟨k + 1, by omega, by go_num, HBEL.out.drew⟩
        · simp [intOf]; omega
    · clear hbel
      go_wp2
      go_ret
      exact ⟨rfl, HBEL.out⟩
set_option maxHeartbeats 1000000 in
theorem markStringS_row (R cap k0 : Nat) (l : List ByteArray) (w : World) (hn : l.length ≤ 1048576) (k1 : 1 ≤ k0) (k2 : k0 ≤ 10000000) (hR : SRow R l w) :
    Calls Try.prog 26 #[.slice (some ⟨R, 0, none⟩) l.length cap, .int .i64 k0] w fun e w' => e = .returned (.int .i64 (k0 + l.length : Nat)) ∧ SRow R (smarks l.length k0) w' ∧ But R w w' := by
  have HR : Hid (SRow R l w) := hR
  clear hR
  go_enter Try.func26, Try.ntmps26
  go_wp2
  go_loopw [1, 5] (fun t i wr => ∃ (j : Nat) (ys : List ByteArray), j ≤ l.length ∧ i = .int .i64 j ∧ t = .int .i64 (k0 + j : Nat) ∧ ys.length = l.length ∧ ys.take j = (smarks l.length k0).take j ∧ SRow R ys wr ∧ But R w wr) (fun _ i _ => l.length - (intOf i).toNat)
  case atStart => exact ⟨0, l, Nat.zero_le _, rfl, rfl, rfl, rfl, HR.out, But.refl _ _⟩
  case round =>
    obtain ⟨j, ys, hj, rfl, rfl, hy, htk, hrow, hbut⟩ := hrel
    have HROW : Hid (SRow R ys wr) := hrow
    have HBUT : Hid (But R w wr) := hbut
    have HTK : Hid (ys.take j = (smarks l.length k0).take j) := htk
    have hltr := hrow.lt
    by_cases hlt : j < l.length
    · have y0 := hrow.cell j (by omega)
      have f0 := hrow.free j (by omega)
      clear hrow hbut htk
      generalize ys[j] = yd at *
      have HC : Hid (∀ v, Calls Try.prog 53 #[.int .i64 (k0 + j : Nat)] v fun e w' => e = .returned (.string (markT (k0 + j))) ∧ Below v.heap.size v w') := fun v => markText_any _ v (by omega) (by omega)
      generalize hk : k0 + j = kk at *
      have hkb : kk ≤ 12000000 := by omega
      have HKK : Hid (k0 + j = kk) := hk
      clear hk
      go_wp2_with fail
      refine (HC.out _).mono ?_
      rintro e w1 ⟨rfl, b1⟩
      have g0 := (b1.cell (p := ⟨R, j, none⟩) hltr).trans y0
      have h0 := (b1.frozen (p := ⟨R, j, none⟩) hltr).trans f0
      have HB1 : Hid (Below wr.heap.size wr w1) := b1
      clear b1
      go_wp2
      go_roundw
      case rel =>
        refine ⟨j + 1, ys.set j (markT kk), by omega, by go_num, by have := HKK.out; go_num, by simpa using hy, ?_, (HROW.out.below HB1.out).set j (by omega) _, (HBUT.out.trans (But.ofBelow HB1.out)).setCell _ _⟩
        have hjy : j < ys.length := by omega
        have hjm : j < (smarks l.length k0).length := by rw [smarks_len]; exact hlt
        rw [take_snoc _ j (by simpa using hjy), take_snoc _ j hjm, List.take_set_of_le (Nat.le_refl _), HTK.out, List.getElem_set_self, smarks_at, HKK.out]
      case measure => simp [intOf]; omega
    · obtain rfl : j = l.length := by omega
      clear hrow hbut
      go_wp2
      go_ret
      rw [List.take_of_length_le (by omega), List.take_of_length_le (by rw [smarks_len]; omega)] at htk
      subst htk
      exact ⟨rfl, HROW.out, HBUT.out⟩
set_option maxHeartbeats 400000 in
theorem markStringS_none (a : Option Addr) (cap k0 : Nat) (w : World) :
    Calls Try.prog 26 #[.slice a 0 cap, .int .i64 k0] w fun e w' => e = .returned (.int .i64 k0) ∧ w' = w := by
  go_enter Try.func26, Try.ntmps26
  go_wp2
  go_loop [1, 5] (fun t i => t = .int .i64 k0 ∧ i = .int .i64 0) (fun _ _ => 0)
  case atStart => exact ⟨rfl, rfl⟩
  case round =>
    obtain ⟨rfl, rfl⟩ := hrel
    go_wp2
    go_ret
    exact ⟨rfl, rfl⟩
set_option maxHeartbeats 1000000 in
theorem heldStringS_row (a : Option Addr) (cap k0 n : Nat) (w : World) (hn : n ≤ 1048576) (k1 : 1 ≤ k0) (k2 : k0 ≤ 10000000) (hR : Ss w.heap.size a (smarks n k0) w) :
    Calls Try.prog 27 #[.slice a n cap, .int .i64 k0] w fun e w' => e = .returned (.int .i64 (k0 + n : Nat)) ∧ Below w.heap.size w w' := by
  have HR : Hid (Ss w.heap.size a (smarks n k0) w) := hR
  clear hR
  have hml := smarks_len n k0
  go_enter Try.func27, Try.ntmps27
  go_wp2
  go_loopw [1, 5] (fun t i wr => ∃ j : Nat, j ≤ n ∧ i = .int .i64 j ∧ t = .int .i64 (k0 + j : Nat) ∧ Below w.heap.size w wr) (fun _ i _ => n - (intOf i).toNat)
  case atStart => exact ⟨0, Nat.zero_le _, rfl, rfl, Below.refl _ _⟩
  case round =>
    obtain ⟨j, hj, rfl, rfl, hbel⟩ := hrel
    have HBEL : Hid (Below w.heap.size w wr) := hbel
    by_cases hlt : j < n
    · obtain ⟨b, o, rfl, hb, hc⟩ := HR.out.cell (by omega)
      have x0 := (hbel.cell (p := ⟨b, o + j, none⟩) hb).trans (hc j (by omega))
      rw [smarks_at] at x0
      have HC : Hid (∀ v, Calls Try.prog 53 #[.int .i64 (k0 + j : Nat)] v fun e w' => e = .returned (.string (markT (k0 + j))) ∧ Below v.heap.size v w') := fun v => markText_any _ v (by omega) (by omega)
      generalize hk : k0 + j = kk at *
      have hkb : kk ≤ 12000000 := by omega
      have HKK : Hid (k0 + j = kk) := hk
      have hbr : b < wr.heap.size := Nat.lt_of_lt_of_le hb HBEL.out.size
      clear hc hbel hk
      go_wp2_with fail
      go_region_with (go_at_call 53; refine (HC.out _).mono ?_; rintro e w9 ⟨rfl, b9⟩; have z0 := (b9.cell (p := ⟨b, o + j, none⟩) hbr).trans x0)
      all_goals
        have HB9 : Hid (Below w.heap.size w w9) := HBEL.out.trans ((show Below wr.heap.size wr w9 from ⟨b9.os, b9.tape, b9.output, b9.size, b9.block⟩).mono HBEL.out.size)
        clear b9
        go_wp2
        go_roundw
        · exact ⟨j + 1, by omega, by go_num, by have := HKK.out; go_num, HB9.out⟩
        · simp [intOf]; omega
    · obtain rfl : j = n := by omega
      clear hbel
      go_wp2
      go_ret
      exact ⟨rfl, HBEL.out⟩
theorem mark_ownS (lo hi : Nat) (a : Option Addr) (c : Nat) (l : List ByteArray) (w : World) (hn : l.length ≤ 1048576) (h : OwnS lo hi a l w) :
    Calls Try.prog 26 #[.slice a l.length c, .int .i64 1] w fun e w' => e = .returned (.int .i64 (1 + l.length : Nat)) ∧ OwnS lo hi a (smarks l.length 1) w' ∧ Out lo hi w w' := by
  rcases h with rfl | ⟨R, h1, h3, rfl, hr⟩
  · exact (markStringS_none a c 1 w).mono fun e w' ⟨he, hb⟩ => ⟨he, Or.inl rfl, by subst hb; exact Out.refl _ _ _⟩
  · exact (markStringS_row R c 1 l w hn (by omega) (by omega) hr).mono fun e w' ⟨he, hrow, hb⟩ => ⟨he, Or.inr ⟨R, h1, h3, rfl, hrow⟩, Out.ofBut hb h1 h3⟩
theorem held_ownS (lo hi : Nat) (a : Option Addr) (c n : Nat) (w : World) (hn : n ≤ 1048576) (h : OwnS lo hi a (smarks n 1) w) :
    Calls Try.prog 27 #[.slice a n c, .int .i64 1] w fun e w' => e = .returned (.int .i64 (1 + n : Nat)) ∧ Below w.heap.size w w' :=
  heldStringS_row a c 1 n w hn (by omega) (by omega) h.ss
theorem SRow.madeV (w : World) (n : Nat) : SRow w.heap.size (List.replicate n ⟨#[]⟩) (w.alloc (.cells (madeCells (Value.string ⟨#[]⟩).cells n) 9)) := by
  have := GRow.made w 9 n #[.string ⟨#[]⟩]
  unfold SRow
  rw [List.map_replicate]
  have e : n * (#[Value.string ⟨#[]⟩] : Array Value).size = n := Nat.mul_one n
  rw [e] at this
  exact this
theorem infoStrV : (Try.prog.info? 9).map (fun i => (i.zero, i.size, i.bytes)) = some (some (.string ⟨#[]⟩), 1, 16) := by kernel_rfl
theorem make_strsV (n : Nat) (hn : n ≤ 1048576) (W : World) : (Instr.makeSlice 42 (.int .i64 (n : Int)) (.int .i64 (n : Int))).run Try.prog W =
    .ok (.slice (some ⟨W.heap.size, 0, none⟩) n n) (W.alloc (.cells (madeCells (Value.string ⟨#[]⟩).cells n) 9)) := by
  obtain ⟨i0, hi, hz0, hz1, hz2⟩ := info_parts infoStrV
  have h := run_make (P := Try.prog) W 42 9 i0 _ Try.underlying42 hi hz0 .i64 .i64 (n : Int) (n : Int) (by omega) (by omega) (by rw [hz2]; omega) (by omega)
  rw [hz1] at h
  simpa using h
set_option maxHeartbeats 1000000 in
theorem toStringS_any (a : Option Addr) (cap : Nat) (l : List ByteArray) (w : World) (hn : l.length ≤ 1048576) (hZ : Ss w.heap.size a l w) :
    Calls Try.prog 81 #[.slice a l.length cap] w fun e w' => e = .returned (.slice (some ⟨w.heap.size, 0, none⟩) l.length l.length) ∧ SRow w.heap.size l w' ∧ Below w.heap.size w w' := by
  have HZ : Hid (Ss w.heap.size a l w) := hZ
  clear hZ
  have hmk := make_strsV l.length hn
  have hr0 := SRow.madeV w l.length
  generalize madeCells (Value.string ⟨#[]⟩).cells l.length = M at *
  have HR : Hid (SRow w.heap.size (List.replicate l.length ⟨#[]⟩) (w.alloc (.cells M 9))) := hr0
  clear hr0
  go_enter Try.func81, Try.ntmps81
  go_wp2
  go_loopw [4] (fun i wr => ∃ (k : Nat) (ys : List ByteArray), k ≤ l.length ∧ i = .int .i64 k ∧ ys.length = l.length ∧ ys.take k = l.take k ∧ SRow w.heap.size ys wr ∧ Below w.heap.size w wr) (fun i _ => l.length - (intOf i).toNat)
  case atStart => exact ⟨0, List.replicate l.length ⟨#[]⟩, Nat.zero_le _, rfl, by simp, rfl, HR.out, (Below.refl _ _).alloc (Nat.le_refl _) _⟩
  case round =>
    obtain ⟨k, ys, hk, rfl, hy, htk, hrow, hbel⟩ := hrel
    have HROW : Hid (SRow w.heap.size ys wr) := hrow
    have HBEL : Hid (Below w.heap.size w wr) := hbel
    have HTK : Hid (ys.take k = l.take k) := htk
    by_cases hlt : k < l.length
    · obtain ⟨b, off, rfl, hb, hcells⟩ := HZ.out.cell (by omega)
      have c0 := (hbel.cell (p := ⟨b, off + k, none⟩) hb).trans (hcells k hlt)
      have y0 := hrow.cell k (by omega)
      have f0 := hrow.free k (by omega)
      clear hrow hbel htk hcells
      have HLK : Hid (l.take (k + 1) = l.take k ++ [l[k]]) := take_snoc l k hlt
      generalize l[k] = D at *
      go_wp2_with fail
      go_roundw
      case rel =>
        refine ⟨k + 1, ys.set k D, by omega, by go_num, by simpa using hy, ?_, HROW.out.set k (by omega) D, HBEL.out.setCell (Nat.le_refl _) _⟩
        have hky : k < ys.length := by omega
        rw [take_snoc _ k (by simpa using hky), HLK.out, List.take_set_of_le (Nat.le_refl _), HTK.out, List.getElem_set_self]
      case measure => simp [intOf]; omega
    · obtain rfl : k = l.length := by omega
      rw [List.take_length, List.take_of_length_le (by omega)] at htk
      subst htk
      clear hrow hbel
      go_wp2
      go_ret
      exact ⟨rfl, HROW.out, HBEL.out⟩
theorem mark_ownSk (lo hi : Nat) (a : Option Addr) (c k : Nat) (l : List ByteArray) (w : World) (hn : l.length ≤ 1048576) (k1 : 1 ≤ k) (k2 : k ≤ 10000000) (h : OwnS lo hi a l w) :
    Calls Try.prog 26 #[.slice a l.length c, .int .i64 k] w fun e w' => e = .returned (.int .i64 (k + l.length : Nat)) ∧ OwnS lo hi a (smarks l.length k) w' ∧ Out lo hi w w' := by
  rcases h with rfl | ⟨R, h1, h3, rfl, hr⟩
  · exact (markStringS_none a c k w).mono fun e w' ⟨he, hb⟩ => ⟨he, Or.inl rfl, by subst hb; exact Out.refl _ _ _⟩
  · exact (markStringS_row R c k l w hn k1 k2 hr).mono fun e w' ⟨he, hrow, hb⟩ => ⟨he, Or.inr ⟨R, h1, h3, rfl, hrow⟩, Out.ofBut hb h1 h3⟩
end Go.Proofs.Ytiionfmpbifbcaa
