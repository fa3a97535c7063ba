/- Walks of the laws' helpers over devices: marks laid and held. -/
import Derived.Test.YtbalahgfikeobasE
namespace Go.Proofs.Ytbalahgfikeobas
set_option maxRecDepth 100000
open Go.ChangeShapes Go.WideShapes Go.ChangeAt Go.RowKit
def mz (k : Nat) : Zn := ⟨markT k, (k : Int) + 1, (((k : Int) + 1 + 1) % 3 == 0)⟩
def marks (n k : Nat) : List Zn := (List.range n).map fun i => mz (k + 3 * i)
theorem marks_len (n k : Nat) : (marks n k).length = n := by simp [marks]
theorem marks_at (n k i : Nat) (h : i < (marks n k).length) : (marks n k)[i] = mz (k + 3 * i) := by simp [marks]
theorem ret_i {k : IntKind} {a b : Int} (h : a = b) : Ending.returned (.int k a) = .returned (.int k b) := by rw [h]
theorem val_i {k : IntKind} {a b : Int} (h : a = b) : Value.int k a = .int k b := by rw [h]
set_option maxHeartbeats 1000000 in
theorem markZoneS_row (R cap k0 : Nat) (zs : List Zn) (w : World) (hn : zs.length ≤ 1048576) (k1 : 1 ≤ k0) (k2 : k0 ≤ 10000000) (hR : ZRow R zs w) :
    Calls Try.prog 36 #[.slice (some ⟨R, 0, none⟩) zs.length cap, .int .i64 k0] w fun e w' => e = .returned (.int .i64 (k0 + 3 * zs.length : Nat)) ∧ ZRow R (marks zs.length k0) w' ∧ But R w w' := by
  have HR : Hid (ZRow R zs w) := hR
  clear hR
  go_enter Try.func36, Try.ntmps36
  go_wp2
  go_loopw [1, 5] (fun t i wr => ∃ (j : Nat) (ys : List Zn), j ≤ zs.length ∧ i = .int .i64 j ∧ t = .int .i64 (k0 + 3 * j : Nat) ∧ ys.length = zs.length ∧ ys.take j = (marks zs.length k0).take j ∧ ZRow R ys wr ∧ But R w wr) (fun _ i _ => zs.length - (intOf i).toNat)
  case atStart => exact ⟨0, zs, Nat.zero_le _, rfl, rfl, rfl, rfl, HR.out, But.refl _ _⟩
  case round =>
    obtain ⟨j, ys, hj, rfl, rfl, hy, htk, hrow, hbut⟩ := hrel
    have HROW : Hid (ZRow R ys wr) := hrow
    have HBUT : Hid (But R w wr) := hbut
    have HTK : Hid (ys.take j = (marks zs.length k0).take j) := htk
    have hltr := hrow.lt
    by_cases hlt : j < zs.length
    · obtain ⟨y0, y1, y2⟩ := hrow.cell j (by omega)
      have f0 := hrow.free (j * 3) (by omega)
      have f1 := hrow.free (j * 3 + 1) (by omega)
      have f2 := hrow.free (j * 3 + 2) (by omega)
      clear hrow hbut htk
      generalize ys[j].data = yd at *
      generalize ys[j].sure = ye at *
      generalize ys[j].full = yf at *
      have hkk : ((k0 + 3 * j : Nat) : Int) = (k0 : Int) + 3 * (j : Int) := by omega
      have HC : Hid (∀ v, Calls Try.prog 47 #[.int .i64 (k0 + 3 * j : Nat)] v fun e w' => e = .returned (.string (markT (k0 + 3 * j))) ∧ Below v.heap.size v w') := fun v => markText_any _ v (by omega) (by omega)
      clear hkk
      generalize hk : k0 + 3 * j = kk at *
      have hkb : kk ≤ 13145728 := by omega
      have HKK : Hid (k0 + 3 * j = kk) := hk
      clear hk
      go_wp2_with fail
      refine (HC.out _).mono ?_
      rintro e w1 ⟨rfl, b1⟩
      have hc1 : ∀ o, w1.cell? ⟨R, o, none⟩ = wr.cell? ⟨R, o, none⟩ := fun o => b1.cell (p := ⟨R, o, none⟩) hltr
      have hf1 : ∀ o, w1.frozen? ⟨R, o, none⟩ = wr.frozen? ⟨R, o, none⟩ := fun o => b1.frozen (p := ⟨R, o, none⟩) hltr
      rw [← hc1] at y0 y1 y2
      rw [← hf1] at f0 f1 f2
      clear hc1 hf1
      have HB1 : Hid (Below wr.heap.size wr w1) := b1
      clear b1
      go_wp2
      go_roundw
      case rel =>
        refine ⟨j + 1, ys.set j (mz kk), by omega, by go_num, val_i (by have := HKK.out; omega), by simpa using hy, ?_, (HROW.out.below HB1.out).set j (by omega) (mz kk), ?_⟩
        · have hjy : j < ys.length := by omega
          have hjm : j < (marks zs.length k0).length := by rw [marks_len]; exact hlt
          rw [take_snoc _ j (by simpa using hjy), take_snoc _ j hjm, List.take_set_of_le (Nat.le_refl _), HTK.out, List.getElem_set_self, marks_at, HKK.out]
        · exact (((HBUT.out.trans (But.ofBelow HB1.out)).setCell _ _).setCell _ _).setCell _ _
      case measure => simp [intOf]; omega
    · obtain rfl : j = zs.length := by omega
      clear hrow hbut
      go_wp2
      go_ret
      rw [List.take_of_length_le (by omega), List.take_of_length_le (by rw [marks_len]; omega)] at htk
      subst htk
      exact ⟨rfl, HROW.out, HBUT.out⟩
set_option maxHeartbeats 400000 in
theorem markZoneS_none (a : Option Addr) (cap k0 : Nat) (w : World) :
    Calls Try.prog 36 #[.slice a 0 cap, .int .i64 k0] w fun e w' => e = .returned (.int .i64 k0) ∧ w' = w := by
  go_enter Try.func36, Try.ntmps36
  go_wp2
  go_loop [1, 5] (fun t i => t = .int .i64 k0 ∧ i = .int .i64 0) (fun _ _ => 0)
  case atStart => exact ⟨rfl, rfl⟩
  case round =>
    obtain ⟨rfl, rfl⟩ := hrel
    go_wp2
    go_ret
    exact ⟨rfl, rfl⟩
set_option maxHeartbeats 400000 in
theorem markDevice_row (R cap k0 : Nat) (zs : List Zn) (w : World) (hn : zs.length ≤ 1048576) (k1 : 1 ≤ k0) (k2 : k0 ≤ 10000000) (hR : ZRow R zs w) :
    Calls Try.prog 13 #[.agg #[.slice (some ⟨R, 0, none⟩) zs.length cap], .int .i64 k0] w fun e w' => e = .returned (.int .i64 (k0 + 3 * zs.length : Nat)) ∧ ZRow R (marks zs.length k0) w' ∧ But R w w' := by
  have HR : Hid (∀ o, ZRow R zs (w.alloc o)) := fun o => hR.below ((Below.refl _ _).alloc (Nat.le_refl _) _)
  clear hR
  go_enter Try.func13, Try.ntmps13
  go_wp2_with fail
  refine (markZoneS_row R cap k0 zs _ hn k1 k2 (HR.out _)).mono ?_
  rintro e w1 ⟨rfl, hrow, hbut⟩
  have HX : Hid (ZRow R (marks zs.length k0) w1 ∧ But R w w1) := ⟨hrow, ((But.refl R w).alloc _).trans hbut⟩
  clear hrow hbut
  go_wp2
  go_ret
  exact ⟨rfl, HX.out.1, HX.out.2⟩
set_option maxHeartbeats 400000 in
theorem markDevice_none (a : Option Addr) (cap k0 : Nat) (w : World) :
    Calls Try.prog 13 #[.agg #[.slice a 0 cap], .int .i64 k0] w fun e w' => e = .returned (.int .i64 k0) ∧ Below w.heap.size w w' := by
  go_enter Try.func13, Try.ntmps13
  go_wp2_with fail
  refine (markZoneS_none a cap k0 _).mono ?_
  rintro e w1 ⟨rfl, rfl⟩
  go_wp2
  go_ret
  exact ⟨rfl, (Below.refl _ _).alloc (Nat.le_refl _) _⟩
set_option maxHeartbeats 2000000 in
theorem heldZoneS_row (a : Option Addr) (cap k0 n : Nat) (w : World) (hn : n ≤ 1048576) (k1 : 1 ≤ k0) (k2 : k0 ≤ 10000000) (hR : Zs w.heap.size a (marks n k0) w) :
    Calls Try.prog 37 #[.slice a n cap, .int .i64 k0] w fun e w' => e = .returned (.int .i64 (k0 + 3 * n : Nat)) ∧ Below w.heap.size w w' := by
  have HR : Hid (Zs w.heap.size a (marks n k0) w) := hR
  clear hR
  have hml := marks_len n k0
  go_enter Try.func37, Try.ntmps37
  go_wp2
  go_loopw [1, 5] (fun t i wr => ∃ j : Nat, j ≤ n ∧ i = .int .i64 j ∧ t = .int .i64 (k0 + 3 * j : Nat) ∧ Below w.heap.size w wr) (fun _ i _ => n - (intOf i).toNat)
  case atStart => exact ⟨0, Nat.zero_le _, rfl, rfl, Below.refl _ _⟩
  case round =>
    obtain ⟨j, hj, rfl, rfl, hbel⟩ := hrel
    have HBEL : Hid (Below w.heap.size w wr) := hbel
    by_cases hlt : j < n
    · obtain ⟨b, o, rfl, hb, hc⟩ := HR.out.cell (by omega)
      obtain ⟨x0, x1, x2⟩ := hc j (by omega)
      have hb' : ∀ o, wr.cell? ⟨b, o, none⟩ = w.cell? ⟨b, o, none⟩ := fun o => hbel.cell (p := ⟨b, o, none⟩) hb
      rw [marks_at, ← hb'] at x0 x1 x2
      have HC : Hid (∀ v, Calls Try.prog 47 #[.int .i64 (k0 + 3 * j : Nat)] v fun e w' => e = .returned (.string (markT (k0 + 3 * j))) ∧ Below v.heap.size v w') := fun v => markText_any _ v (by omega) (by omega)
      generalize hk : k0 + 3 * j = kk at *
      have hkb : kk ≤ 13145728 := by omega
      have HKK : Hid (k0 + 3 * j = kk) := hk
      clear hk hc hb' hbel
      unfold mz at x0 x1 x2
      simp only at x0 x1 x2
      have hbr : b < wr.heap.size := Nat.lt_of_lt_of_le hb HBEL.out.size
      go_wp2_with fail
      go_region_with (go_at_call 47; refine (HC.out _).mono ?_; rintro e w9 ⟨rfl, b9⟩; have z0 := (b9.cell (p := ⟨b, o + j * 3, none⟩) hbr).trans x0; have z1 := (b9.cell (p := ⟨b, o + j * 3 + 1, none⟩) hbr).trans x1; have z2 := (b9.cell (p := ⟨b, o + j * 3 + 2, none⟩) hbr).trans x2)
      all_goals
        have HB9 : Hid (Below w.heap.size w w9) := HBEL.out.trans ((show Below wr.heap.size wr w9 from ⟨b9.os, b9.tape, b9.output, b9.size, b9.block⟩).mono HBEL.out.size)
        clear b9
        go_wp2
        go_roundw
        · exact ⟨j + 1, by omega, by go_num, val_i (by have := HKK.out; omega), HB9.out⟩
        · simp [intOf]; omega
    · obtain rfl : j = n := by omega
      clear hbel
      go_wp2
      go_ret
      exact ⟨rfl, HBEL.out⟩
set_option maxHeartbeats 400000 in
theorem heldDevice_row (a : Option Addr) (cap k0 n : Nat) (w : World) (hn : n ≤ 1048576) (k1 : 1 ≤ k0) (k2 : k0 ≤ 10000000) (hR : Zs w.heap.size a (marks n k0) w) :
    Calls Try.prog 14 #[.agg #[.slice a n cap], .int .i64 k0] w fun e w' => e = .returned (.int .i64 (k0 + 3 * n : Nat)) ∧ Below w.heap.size w w' := by
  have HR : Hid (∀ o, Zs (w.alloc o).heap.size a (marks n k0) (w.alloc o)) := fun o => (hR.below ((Below.refl _ _).alloc (Nat.le_refl _) _)).mono (by simp)
  clear hR
  go_enter Try.func14, Try.ntmps14
  go_wp2_with fail
  refine (heldZoneS_row a cap k0 n _ hn k1 k2 (HR.out _)).mono ?_
  rintro e w1 ⟨rfl, b1⟩
  have HB : Hid (Below w.heap.size w w1) := ((Below.refl _ _).alloc (Nat.le_refl _) _).trans (b1.mono (by simp))
  have hd : decide (((k0 + 3 * n : Nat) : Int) < 0) = false := by simp; omega
  clear b1
  go_wp2
  go_ret
  exact ⟨ret_i (by omega), HB.out⟩
end Go.Proofs.Ytbalahgfikeobas
