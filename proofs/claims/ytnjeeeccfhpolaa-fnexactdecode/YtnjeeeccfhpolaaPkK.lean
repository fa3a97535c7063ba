/- Marks over rows of packets. -/
import Derived.Test.YtnjeeeccfhpolaaPkM
namespace Go.Proofs.Ytnjeeeccfhpolaa
set_option maxRecDepth 100000
open Go.ChangeShapes Go.WideShapes Go.ChangeAt Go.RowKit
def mpk (k : Nat) : Pk := ⟨k, markT (k + 1)⟩
def pmarks (n k : Nat) : List Pk := (List.range n).map fun i => mpk (k + 2 * i)
theorem pmarks_len (n k : Nat) : (pmarks n k).length = n := by simp [pmarks]
theorem pmarks_at (n k i : Nat) (h : i < (pmarks n k).length) : (pmarks n k)[i] = mpk (k + 2 * i) := by simp [pmarks]
theorem val_iN {k : IntKind} {a b : Int} (h : a = b) : Value.int k a = .int k b := by rw [h]
set_option maxHeartbeats 1000000 in
theorem markPacketS_row (R cap k0 : Nat) (l : List Pk) (w : World) (hn : l.length ≤ 1048576) (k1 : 1 ≤ k0) (k2 : k0 ≤ 10000000) (hR : PRow R l w) :
    Calls Try.prog 32 #[.slice (some ⟨R, 0, none⟩) l.length cap, .int .i64 k0] w fun e w' => e = .returned (.int .i64 (k0 + 2 * l.length : Nat)) ∧ PRow R (pmarks l.length k0) w' ∧ But R w w' := by
  have HR : Hid (PRow R l w) := hR
  clear hR
  go_enter Try.func32, Try.ntmps32
  go_wp2
  go_loopw [1, 5] (fun t i wr => ∃ (j : Nat) (ys : List Pk), j ≤ l.length ∧ i = .int .i64 j ∧ t = .int .i64 (k0 + 2 * j : Nat) ∧ ys.length = l.length ∧ ys.take j = (pmarks l.length k0).take j ∧ PRow R ys wr ∧ But R w wr) (fun _ i _ => l.length - (intOf i).toNat)
  case atStart => exact ⟨0, l, Nat.zero_le _, rfl, rfl, rfl, rfl, HR.out, But.refl _ _⟩
  case round =>
    obtain ⟨j, ys, hj, rfl, rfl, hy, htk, hrow, hbut⟩ := hrel
    have HROW : Hid (PRow R ys wr) := hrow
    have HBUT : Hid (But R w wr) := hbut
    have HTK : Hid (ys.take j = (pmarks l.length k0).take j) := htk
    have hltr := hrow.lt
    by_cases hlt : j < l.length
    · obtain ⟨y0, y1⟩ := hrow.cell j (by omega)
      have f0 := hrow.free (j * 2) (by omega)
      have f1 := hrow.free (j * 2 + 1) (by omega)
      clear hrow hbut htk
      generalize ys[j].ms = yb at *
      generalize ys[j].tx = yd at *
      have HC : Hid (∀ v, Calls Try.prog 62 #[.int .i64 (((k0 + 2 * j : Nat) : Int) + 1)] v fun e w' => e = .returned (.string (markT (k0 + 2 * j + 1))) ∧ Below v.heap.size v w') := fun v => by
        have := markText_any (k0 + 2 * j + 1) v (by omega) (by omega)
        rw [show ((k0 + 2 * j + 1 : Nat) : Int) = ((k0 + 2 * j : Nat) : Int) + 1 by omega] at this
        exact this
      generalize hk : k0 + 2 * j = kk at *
      have hkb : kk ≤ 14194304 := by omega
      have HKK : Hid (k0 + 2 * j = kk) := hk
      clear hk
      go_wp2_with fail
      refine (HC.out _).mono ?_
      rintro e w1 ⟨rfl, b1⟩
      have g3 := (b1.cell (p := ⟨R, j * 2 + 1, none⟩) (by simpa [World.setCell] using hltr)).trans (show _ = some (.string yd) by go_simp)
      have h3 := (b1.frozen (p := ⟨R, j * 2 + 1, none⟩) (by simpa [World.setCell] using hltr)).trans (show _ = false by go_simp)
      have HRN : Hid (PRow R (ys.set j (mpk kk)) (w1.setCell ⟨R, j * 2 + 1, none⟩ (.string (markT (kk + 1))))) := by
        exact HROW.out.setMark j (by omega) (mpk kk) b1
      have HBN : Hid (But R w w1) := ((HBUT.out).setCell _ _).trans (But.ofBelow b1)
      clear b1
      go_wp2
      go_roundw
      case rel =>
        refine ⟨j + 1, ys.set j (mpk kk), by omega, by go_num, val_iN (by have := HKK.out; omega), by simpa using hy, ?_, HRN.out, HBN.out.setCell _ _⟩
        have hjy : j < ys.length := by omega
        have hjm : j < (pmarks l.length k0).length := by rw [pmarks_len]; exact hlt
        rw [take_snoc _ j (by simpa using hjy), take_snoc _ j hjm, List.take_set_of_le (Nat.le_refl _), HTK.out, List.getElem_set_self, pmarks_at, HKK.out]
      case measure => simp [intOf]; omega
    · obtain rfl : j = l.length := by omega
      clear hrow hbut
      go_wp2
      go_ret
      rw [List.take_of_length_le (by omega), List.take_of_length_le (by rw [pmarks_len]; omega)] at htk
      subst htk
      exact ⟨rfl, HROW.out, HBUT.out⟩
set_option maxHeartbeats 400000 in
theorem markPacketS_none (a : Option Addr) (cap k0 : Nat) (w : World) :
    Calls Try.prog 32 #[.slice a 0 cap, .int .i64 k0] w fun e w' => e = .returned (.int .i64 k0) ∧ w' = w := by
  go_enter Try.func32, Try.ntmps32
  go_wp2
  go_loop [1, 5] (fun t i => t = .int .i64 k0 ∧ i = .int .i64 0) (fun _ _ => 0)
  case atStart => exact ⟨rfl, rfl⟩
  case round =>
    obtain ⟨rfl, rfl⟩ := hrel
    go_wp2
    go_ret
    exact ⟨rfl, rfl⟩
theorem mark_ownPk (lo hi : Nat) (a : Option Addr) (c : Nat) (l : List Pk) (w : World) (hn : l.length ≤ 1048576) (h : OwnP lo hi a l w) :
    Calls Try.prog 32 #[.slice a l.length c, .int .i64 1] w fun e w' => e = .returned (.int .i64 (1 + 2 * l.length : Nat)) ∧ OwnP lo hi a (pmarks l.length 1) w' ∧ Out lo hi w w' := by
  rcases h with rfl | ⟨R, h1, h3, rfl, hr⟩
  · exact (markPacketS_none a c 1 w).mono fun e w' ⟨he, hb⟩ => ⟨he, Or.inl rfl, by subst hb; exact Out.refl _ _ _⟩
  · exact (markPacketS_row R c 1 l w hn (by omega) (by omega) hr).mono fun e w' ⟨he, hrow, hb⟩ => ⟨he, Or.inr ⟨R, h1, h3, rfl, hrow⟩, Out.ofBut hb h1 h3⟩
theorem OwnP.out {lo hi l2 h2 : Nat} {a : Option Addr} {l : List Pk} {w w' : World} (h : OwnP lo hi a l w) (g : Out l2 h2 w w') (hd : hi ≤ l2 ∨ h2 ≤ lo) : OwnP lo hi a l w' := by
  rcases h with h | ⟨R, h1, h3, e, hr⟩
  · exact Or.inl h
  · exact Or.inr ⟨R, h1, h3, e, hr.same g.size (g.block R hr.lt (by omega))⟩
end Go.Proofs.Ytnjeeeccfhpolaa
