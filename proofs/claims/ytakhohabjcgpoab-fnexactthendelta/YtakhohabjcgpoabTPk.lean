/- Marks over rows of parts. -/
import Derived.Test.YtakhohabjcgpoabTPm
import Derived.Test.YtakhohabjcgpoabOut
namespace Go.Proofs.Ytakhohabjcgpoab
set_option maxRecDepth 100000
open Go.ChangeShapes Go.WideShapes Go.ChangeAt Go.RowKit
def mpt (k : Nat) : Pt := ⟨(k : Int), (k : Int) + 1, markT (k + 2)⟩
def tmarks (n k : Nat) : List Pt := (List.range n).map fun i => mpt (k + 3 * i)
theorem tmarks_len (n k : Nat) : (tmarks n k).length = n := by simp [tmarks]
theorem tmarks_at (n k i : Nat) (h : i < (tmarks n k).length) : (tmarks n k)[i] = mpt (k + 3 * i) := by simp [tmarks]
theorem val_iT {k : IntKind} {a b : Int} (h : a = b) : Value.int k a = .int k b := by rw [h]
set_option maxHeartbeats 1000000 in
theorem markPartS_row (R cap k0 : Nat) (l : List Pt) (w : World) (hn : l.length ≤ 1048576) (k1 : 1 ≤ k0) (k2 : k0 ≤ 10000000) (hR : PtRow R l w) :
    Calls Try.prog 12 #[.slice (some ⟨R, 0, none⟩) l.length cap, .int .i64 k0] w fun e w' => e = .returned (.int .i64 (k0 + 3 * l.length : Nat)) ∧ PtRow R (tmarks l.length k0) w' ∧ But R w w' := by
  have HR : Hid (PtRow R l w) := hR
  clear hR
  go_enter Try.func12, Try.ntmps12
  go_wp2
  go_loopw [1, 5] (fun t i wr => ∃ (j : Nat) (ys : List Pt), j ≤ l.length ∧ i = .int .i64 j ∧ t = .int .i64 (k0 + 3 * j : Nat) ∧ ys.length = l.length ∧ ys.take j = (tmarks l.length k0).take j ∧ PtRow R ys wr ∧ But R w wr) (fun _ i _ => l.length - (intOf i).toNat)
  case atStart => exact ⟨0, l, Nat.zero_le _, rfl, rfl, rfl, rfl, HR.out, But.refl _ _⟩
  case round =>
    obtain ⟨j, ys, hj, rfl, rfl, hy, htk, hrow, hbut⟩ := hrel
    have HROW : Hid (PtRow R ys wr) := hrow
    have HBUT : Hid (But R w wr) := hbut
    have HTK : Hid (ys.take j = (tmarks l.length k0).take j) := htk
    have hltr := hrow.lt
    by_cases hlt : j < l.length
    · obtain ⟨y0, y1, y2⟩ := hrow.cell j (by omega)
      have f0 := hrow.free (j * 3) (by omega)
      have f1 := hrow.free (j * 3 + 1) (by omega)
      have f2 := hrow.free (j * 3 + 2) (by omega)
      clear hrow hbut htk
      generalize ys[j].fr = ya at *
      generalize ys[j].lg = yb at *
      generalize ys[j].tx = yd at *
      have HC : Hid (∀ v, Calls Try.prog 22 #[.int .i64 (((k0 + 3 * j : Nat) : Int) + 1 + 1)] v fun e w' => e = .returned (.string (markT (k0 + 3 * j + 2))) ∧ Below v.heap.size v w') := fun v => by
        have := markText_any (k0 + 3 * j + 2) v (by omega) (by omega)
        rw [show ((k0 + 3 * j + 2 : Nat) : Int) = ((k0 + 3 * j : Nat) : Int) + 1 + 1 by omega] at this
        exact this
      generalize hk : k0 + 3 * j = kk at *
      have hkb : kk ≤ 14194304 := by omega
      have HKK : Hid (k0 + 3 * j = kk) := hk
      clear hk
      go_wp2_with fail
      refine (HC.out _).mono ?_
      rintro e w1 ⟨rfl, b1⟩
      have g3 := (b1.cell (p := ⟨R, j * 3 + 2, none⟩) (by simpa [World.setCell] using hltr)).trans (show _ = some (.string yd) by go_simp)
      have h3 := (b1.frozen (p := ⟨R, j * 3 + 2, none⟩) (by simpa [World.setCell] using hltr)).trans (show _ = false by go_simp)
      have HRN : Hid (PtRow R (ys.set j (mpt kk)) (w1.setCell ⟨R, j * 3 + 2, none⟩ (.string (markT (kk + 2))))) := by
        exact HROW.out.setMark j (by omega) (mpt kk) b1
      have HBN : Hid (But R w w1) := (((HBUT.out).setCell _ _).setCell _ _).trans (But.ofBelow b1)
      clear b1
      go_wp2
      go_roundw
      case rel =>
        refine ⟨j + 1, ys.set j (mpt kk), by omega, by go_num, val_iT (by have := HKK.out; omega), by simpa using hy, ?_, HRN.out, HBN.out.setCell _ _⟩
        have hjy : j < ys.length := by omega
        have hjm : j < (tmarks l.length k0).length := by rw [tmarks_len]; exact hlt
        rw [take_snoc _ j (by simpa using hjy), take_snoc _ j hjm, List.take_set_of_le (Nat.le_refl _), HTK.out, List.getElem_set_self, tmarks_at, HKK.out]
      case measure => simp [intOf]; omega
    · obtain rfl : j = l.length := by omega
      clear hrow hbut
      go_wp2
      go_ret
      rw [List.take_of_length_le (by omega), List.take_of_length_le (by rw [tmarks_len]; omega)] at htk
      subst htk
      exact ⟨rfl, HROW.out, HBUT.out⟩
set_option maxHeartbeats 400000 in
theorem markPartS_none (a : Option Addr) (cap k0 : Nat) (w : World) :
    Calls Try.prog 12 #[.slice a 0 cap, .int .i64 k0] w fun e w' => e = .returned (.int .i64 k0) ∧ w' = w := by
  go_enter Try.func12, Try.ntmps12
  go_wp2
  go_loop [1, 5] (fun t i => t = .int .i64 k0 ∧ i = .int .i64 0) (fun _ _ => 0)
  case atStart => exact ⟨rfl, rfl⟩
  case round =>
    obtain ⟨rfl, rfl⟩ := hrel
    go_wp2
    go_ret
    exact ⟨rfl, rfl⟩
set_option maxHeartbeats 2000000 in
theorem heldPartS_row (a : Option Addr) (cap k0 n : Nat) (w : World) (hn : n ≤ 1048576) (k1 : 1 ≤ k0) (k2 : k0 ≤ 10000000) (hR : Pts w.heap.size a (tmarks n k0) w) :
    Calls Try.prog 13 #[.slice a n cap, .int .i64 k0] w fun e w' => e = .returned (.int .i64 (k0 + 3 * n : Nat)) ∧ Below w.heap.size w w' := by
  have HR : Hid (Pts w.heap.size a (tmarks n k0) w) := hR
  clear hR
  have hml := tmarks_len n k0
  go_enter Try.func13, Try.ntmps13
  go_wp2
  go_loopw [1, 5] (fun t i wr => ∃ j : Nat, j ≤ n ∧ i = .int .i64 j ∧ t = .int .i64 (k0 + 3 * j : Nat) ∧ Below w.heap.size w wr) (fun _ i _ => n - (intOf i).toNat)
  case atStart => exact ⟨0, Nat.zero_le _, rfl, rfl, Below.refl _ _⟩
  case round =>
    obtain ⟨j, hj, rfl, rfl, hbel⟩ := hrel
    have HBEL : Hid (Below w.heap.size w wr) := hbel
    by_cases hlt : j < n
    · obtain ⟨b, o, rfl, hb, hc⟩ := HR.out.cell (by omega)
      obtain ⟨x0, x1, x2⟩ := hc j (by omega)
      have hb' : ∀ o, wr.cell? ⟨b, o, none⟩ = w.cell? ⟨b, o, none⟩ := fun o => hbel.cell (p := ⟨b, o, none⟩) hb
      rw [tmarks_at, ← hb'] at x0 x1 x2
      have HC : Hid (∀ v, Calls Try.prog 22 #[.int .i64 (((k0 + 3 * j : Nat) : Int) + 1 + 1)] v fun e w' => e = .returned (.string (markT (k0 + 3 * j + 2))) ∧ Below v.heap.size v w') := fun v => by
        have := markText_any (k0 + 3 * j + 2) v (by omega) (by omega)
        rw [show ((k0 + 3 * j + 2 : Nat) : Int) = ((k0 + 3 * j : Nat) : Int) + 1 + 1 by omega] at this
        exact this
      generalize hk : k0 + 3 * j = kk at *
      have hkb : kk ≤ 14194304 := by omega
      have HKK : Hid (k0 + 3 * j = kk) := hk
      clear hk hc hb' hbel
      unfold mpt at x0 x1 x2
      simp only at x0 x1 x2
      have hbr : b < wr.heap.size := Nat.lt_of_lt_of_le hb HBEL.out.size
      go_wp2_with fail
      go_region_with (go_at_call 22; refine (HC.out _).mono ?_; rintro e w9 ⟨rfl, b9⟩; have z3 := (b9.cell (p := ⟨b, o + j * 3 + 2, none⟩) hbr).trans x2)
      all_goals
        have HB9 : Hid (Below w.heap.size w w9) := HBEL.out.trans ((show Below wr.heap.size wr w9 from ⟨b9.os, b9.tape, b9.output, b9.size, b9.block⟩).mono HBEL.out.size)
        clear b9
        go_wp2
        go_roundw
        · exact ⟨j + 1, by omega, by go_num, val_iT (by have := HKK.out; omega), HB9.out⟩
        · simp [intOf]; omega
    · obtain rfl : j = n := by omega
      clear hbel
      go_wp2
      go_ret
      exact ⟨rfl, HBEL.out⟩
theorem mark_ownT (lo hi : Nat) (a : Option Addr) (c k0 : Nat) (l : List Pt) (w : World) (hn : l.length ≤ 1048576) (k1 : 1 ≤ k0) (k2 : k0 ≤ 10000000) (h : OwnT lo hi a l w) :
    Calls Try.prog 12 #[.slice a l.length c, .int .i64 k0] w fun e w' => e = .returned (.int .i64 (k0 + 3 * l.length : Nat)) ∧ OwnT lo hi a (tmarks l.length k0) w' ∧ Out lo hi w w' := by
  rcases h with rfl | ⟨R, h1, h3, rfl, hr⟩
  · exact (markPartS_none a c k0 w).mono fun e w' ⟨he, hb⟩ => ⟨he, Or.inl rfl, by subst hb; exact Out.refl _ _ _⟩
  · exact (markPartS_row R c k0 l w hn k1 k2 hr).mono fun e w' ⟨he, hrow, hb⟩ => ⟨he, Or.inr ⟨R, h1, h3, rfl, hrow⟩, Out.ofBut hb h1 h3⟩
theorem held_ownT (lo hi : Nat) (a : Option Addr) (c n : Nat) (w : World) (hn : n ≤ 1048576) (h : OwnT lo hi a (tmarks n 1) w) :
    Calls Try.prog 13 #[.slice a n c, .int .i64 1] w fun e w' => e = .returned (.int .i64 (1 + 3 * n : Nat)) ∧ Below w.heap.size w w' := heldPartS_row a c 1 n w hn (Nat.le_refl _) (by decide) h.ts
theorem to_ownT (a : Option Addr) (cap : Nat) (l : List Pt) (w : World) (hn : l.length ≤ 1048576) (hI : Pts w.heap.size a l w) :
    Calls Try.prog 7 #[.slice a l.length cap] w fun e w' => ∃ b, e = .returned (.slice b l.length l.length) ∧ OwnT w.heap.size w'.heap.size b l w' ∧ Below w.heap.size w w' :=
  (toPartS_any a cap l w hn hI).mono fun _ _ ⟨he, hr, hb⟩ => ⟨_, he, Or.inr ⟨_, Nat.le_refl _, hr.lt, rfl, hr⟩, hb⟩
theorem OwnT.out {lo hi l2 h2 : Nat} {a : Option Addr} {l : List Pt} {w w' : World} (h : OwnT lo hi a l w) (g : Out l2 h2 w w') (hd : hi ≤ l2 ∨ h2 ≤ lo) : OwnT lo hi a l w' := by
  rcases h with h | ⟨R, h1, h3, e, hr⟩
  · exact Or.inl h
  · exact Or.inr ⟨R, h1, h3, e, hr.same g.size (g.block R hr.lt (by omega))⟩
end Go.Proofs.Ytakhohabjcgpoab
