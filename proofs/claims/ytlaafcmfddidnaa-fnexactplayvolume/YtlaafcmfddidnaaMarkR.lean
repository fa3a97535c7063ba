/- Walks of the laws' helpers over records: marks laid and held. -/
import Derived.Test.YtlaafcmfddidnaaHRecS
import Derived.Test.YtlaafcmfddidnaaMarkT
import Derived.Test.YtlaafcmfddidnaaOut
namespace Go.Proofs.Ytlaafcmfddidnaa
set_option maxRecDepth 100000
open Go.ChangeShapes Go.WideShapes Go.ChangeAt Go.RowKit G00541
def mrec (k : Nat) : Rc := ⟨(k : Int), (k : Int) + 1, (k : Int) + 1 + 1, (markT (k + 3)).data.toList⟩
theorem mrec_data (k : Nat) : str (mrec k).data = markT (k + 3) := str_back _
def rmarks (n k : Nat) : List Rc := (List.range n).map fun i => mrec (k + 4 * i)
theorem rmarks_len (n k : Nat) : (rmarks n k).length = n := by simp [rmarks]
theorem rmarks_at (n k i : Nat) (h : i < (rmarks n k).length) : (rmarks n k)[i] = mrec (k + 4 * i) := by simp [rmarks]
theorem ret_i {k : IntKind} {a b : Int} (h : a = b) : Ending.returned (.int k a) = .returned (.int k b) := by rw [h]
theorem val_i {k : IntKind} {a b : Int} (h : a = b) : Value.int k a = .int k b := by rw [h]
theorem RRow.setMark {R : Nat} {l : List Rc} {w w1 : World} (h : RRow R l w) (k : Nat) (hk : k < l.length) (z : Rc) (hb : Below (((w.setCell ⟨R, k * 4, none⟩ (.int .i64 z.kind)).setCell ⟨R, k * 4 + 1, none⟩ (.int .i64 z.place)).setCell ⟨R, k * 4 + 2, none⟩ (.int .i64 z.long)).heap.size (((w.setCell ⟨R, k * 4, none⟩ (.int .i64 z.kind)).setCell ⟨R, k * 4 + 1, none⟩ (.int .i64 z.place)).setCell ⟨R, k * 4 + 2, none⟩ (.int .i64 z.long)) w1) :
    RRow R (l.set k z) (w1.setCell ⟨R, k * 4 + 3, none⟩ (.string (str z.data))) := by
  have h1 := h.setAt k 0 hk (by decide) (.int .i64 z.kind) ⟨z.kind, l[k].place, l[k].long, l[k].data⟩ rfl
  have h2 := h1.setAt k 1 (by simpa using hk) (by decide) (.int .i64 z.place) ⟨z.kind, z.place, l[k].long, l[k].data⟩ (by rw [List.getElem_set_self]; rfl)
  have h3 := h2.setAt k 2 (by simpa using hk) (by decide) (.int .i64 z.long) ⟨z.kind, z.place, z.long, l[k].data⟩ (by rw [List.getElem_set_self]; rfl)
  have h3' := h3.below hb
  have h4 := h3'.setAt k 3 (by simpa using hk) (by decide) (.string (str z.data)) z (by rw [List.getElem_set_self]; rfl)
  simpa using h4
set_option maxHeartbeats 1000000 in
theorem markRecordS_row (R cap k0 : Nat) (l : List Rc) (w : World) (hn : l.length ≤ 1048576) (k1 : 1 ≤ k0) (k2 : k0 ≤ 10000000) (hR : RRow R l w) :
    Calls Try.prog 28 #[.slice (some ⟨R, 0, none⟩) l.length cap, .int .i64 k0] w fun e w' => e = .returned (.int .i64 (k0 + 4 * l.length : Nat)) ∧ RRow R (rmarks l.length k0) w' ∧ But R w w' := by
  have HR : Hid (RRow R l w) := hR
  clear hR
  go_enter Try.func28, Try.ntmps28
  go_wp2
  go_loopw [1, 5] (fun t i wr => ∃ (j : Nat) (ys : List Rc), j ≤ l.length ∧ i = .int .i64 j ∧ t = .int .i64 (k0 + 4 * j : Nat) ∧ ys.length = l.length ∧ ys.take j = (rmarks l.length k0).take j ∧ RRow R ys wr ∧ But R w wr) (fun _ i _ => l.length - (intOf i).toNat)
  case atStart => exact ⟨0, l, Nat.zero_le _, rfl, rfl, rfl, rfl, HR.out, But.refl _ _⟩
  case round =>
    obtain ⟨j, ys, hj, rfl, rfl, hy, htk, hrow, hbut⟩ := hrel
    have HROW : Hid (RRow R ys wr) := hrow
    have HBUT : Hid (But R w wr) := hbut
    have HTK : Hid (ys.take j = (rmarks l.length k0).take j) := htk
    have hltr := hrow.lt
    by_cases hlt : j < l.length
    · obtain ⟨y0, y1, y2, y3⟩ := hrow.cell j (by omega)
      have f0 := hrow.free (j * 4) (by omega)
      have f1 := hrow.free (j * 4 + 1) (by omega)
      have f2 := hrow.free (j * 4 + 2) (by omega)
      have f3 := hrow.free (j * 4 + 3) (by omega)
      clear hrow hbut htk
      generalize ys[j].kind = ya at *
      generalize ys[j].place = yb at *
      generalize ys[j].long = yc at *
      generalize str ys[j].data = yd at *
      have HC : Hid (∀ v, Calls Try.prog 26 #[.int .i64 (((k0 + 4 * j : Nat) : Int) + 1 + 1 + 1)] v fun e w' => e = .returned (.string (markT (k0 + 4 * j + 3))) ∧ Below v.heap.size v w') := fun v => by
        have := markText_any (k0 + 4 * j + 3) v (by omega) (by omega)
        rw [show ((k0 + 4 * j + 3 : Nat) : Int) = ((k0 + 4 * j : Nat) : Int) + 1 + 1 + 1 by omega] at this
        exact this
      generalize hk : k0 + 4 * j = kk at *
      have hkb : kk ≤ 14194304 := by omega
      have HKK : Hid (k0 + 4 * j = kk) := hk
      clear hk
      go_wp2_with fail
      refine (HC.out _).mono ?_
      rintro e w1 ⟨rfl, b1⟩
      have g3 := (b1.cell (p := ⟨R, j * 4 + 3, none⟩) (by simpa [World.setCell] using hltr)).trans (show _ = some (.string yd) by go_simp)
      have h3 := (b1.frozen (p := ⟨R, j * 4 + 3, none⟩) (by simpa [World.setCell] using hltr)).trans (show _ = false by go_simp)
      have HRN : Hid (RRow R (ys.set j (mrec kk)) (w1.setCell ⟨R, j * 4 + 3, none⟩ (.string (markT (kk + 3))))) := by
        show RRow R (ys.set j (mrec kk)) _
        rw [← mrec_data kk]
        exact HROW.out.setMark j (by omega) (mrec kk) b1
      have HBN : Hid (But R w w1) := ((((HBUT.out).setCell _ _).setCell _ _).setCell _ _).trans (But.ofBelow b1)
      clear b1
      go_wp2
      go_roundw
      case rel =>
        refine ⟨j + 1, ys.set j (mrec kk), by omega, by go_num, val_i (by have := HKK.out; omega), by simpa using hy, ?_, HRN.out, HBN.out.setCell _ _⟩
        have hjy : j < ys.length := by omega
        have hjm : j < (rmarks l.length k0).length := by rw [rmarks_len]; exact hlt
        rw [take_snoc _ j (by simpa using hjy), take_snoc _ j hjm, List.take_set_of_le (Nat.le_refl _), HTK.out, List.getElem_set_self, rmarks_at, HKK.out]
      case measure => simp [intOf]; omega
    · obtain rfl : j = l.length := by omega
      clear hrow hbut
      go_wp2
      go_ret
      rw [List.take_of_length_le (by omega), List.take_of_length_le (by rw [rmarks_len]; omega)] at htk
      subst htk
      exact ⟨rfl, HROW.out, HBUT.out⟩
set_option maxHeartbeats 400000 in
theorem markRecordS_none (a : Option Addr) (cap k0 : Nat) (w : World) :
    Calls Try.prog 28 #[.slice a 0 cap, .int .i64 k0] w fun e w' => e = .returned (.int .i64 k0) ∧ w' = w := by
  go_enter Try.func28, Try.ntmps28
  go_wp2
  go_loop [1, 5] (fun t i => t = .int .i64 k0 ∧ i = .int .i64 0) (fun _ _ => 0)
  case atStart => exact ⟨rfl, rfl⟩
  case round =>
    obtain ⟨rfl, rfl⟩ := hrel
    go_wp2
    go_ret
    exact ⟨rfl, rfl⟩
set_option maxHeartbeats 2000000 in
theorem heldRecordS_row (a : Option Addr) (cap k0 n : Nat) (w : World) (hn : n ≤ 1048576) (k1 : 1 ≤ k0) (k2 : k0 ≤ 10000000) (hR : Rs w.heap.size a (rmarks n k0) w) :
    Calls Try.prog 30 #[.slice a n cap, .int .i64 k0] w fun e w' => e = .returned (.int .i64 (k0 + 4 * n : Nat)) ∧ Below w.heap.size w w' := by
  have HR : Hid (Rs w.heap.size a (rmarks n k0) w) := hR
  clear hR
  have hml := rmarks_len n k0
  go_enter Try.func30, Try.ntmps30
  go_wp2
  go_loopw [1, 5] (fun t i wr => ∃ j : Nat, j ≤ n ∧ i = .int .i64 j ∧ t = .int .i64 (k0 + 4 * j : Nat) ∧ Below w.heap.size w wr) (fun _ i _ => n - (intOf i).toNat)
  case atStart => exact ⟨0, Nat.zero_le _, rfl, rfl, Below.refl _ _⟩
  case round =>
    obtain ⟨j, hj, rfl, rfl, hbel⟩ := hrel
    have HBEL : Hid (Below w.heap.size w wr) := hbel
    by_cases hlt : j < n
    · obtain ⟨b, o, rfl, hb, hc⟩ := HR.out.cell (by omega)
      obtain ⟨x0, x1, x2, x3⟩ := hc j (by omega)
      have hb' : ∀ o, wr.cell? ⟨b, o, none⟩ = w.cell? ⟨b, o, none⟩ := fun o => hbel.cell (p := ⟨b, o, none⟩) hb
      rw [rmarks_at, ← hb'] at x0 x1 x2 x3
      rw [mrec_data] at x3
      have HC : Hid (∀ v, Calls Try.prog 26 #[.int .i64 (((k0 + 4 * j : Nat) : Int) + 1 + 1 + 1)] v fun e w' => e = .returned (.string (markT (k0 + 4 * j + 3))) ∧ Below v.heap.size v w') := fun v => by
        have := markText_any (k0 + 4 * j + 3) v (by omega) (by omega)
        rw [show ((k0 + 4 * j + 3 : Nat) : Int) = ((k0 + 4 * j : Nat) : Int) + 1 + 1 + 1 by omega] at this
        exact this
      generalize hk : k0 + 4 * j = kk at *
      have hkb : kk ≤ 14194304 := by omega
      have HKK : Hid (k0 + 4 * j = kk) := hk
      clear hk hc hb' hbel
      unfold mrec at x0 x1 x2
      simp only at x0 x1 x2
      have hbr : b < wr.heap.size := Nat.lt_of_lt_of_le hb HBEL.out.size
      go_wp2_with fail
      go_region_with (go_at_call 26; refine (HC.out _).mono ?_; rintro e w9 ⟨rfl, b9⟩; have z3 := (b9.cell (p := ⟨b, o + j * 4 + 3, none⟩) hbr).trans x3)
      all_goals
        have HB9 : Hid (Below w.heap.size w w9) := HBEL.out.trans ((show Below wr.heap.size wr w9 from ⟨b9.os, b9.tape, b9.output, b9.size, b9.block⟩).mono HBEL.out.size)
        clear b9
        go_wp2
        go_roundw
        · exact ⟨j + 1, by omega, by go_num, val_i (by have := HKK.out; omega), HB9.out⟩
        · simp [intOf]; omega
    · obtain rfl : j = n := by omega
      clear hbel
      go_wp2
      go_ret
      exact ⟨rfl, HBEL.out⟩
theorem OwnR.out {lo hi l2 h2 : Nat} {a : Option Addr} {l : List Rc} {w w' : World} (h : OwnR lo hi a l w) (g : Out l2 h2 w w') (hd : hi ≤ l2 ∨ h2 ≤ lo) : OwnR lo hi a l w' := by
  rcases h with h | ⟨R, h1, h3, e, hr⟩
  · exact Or.inl h
  · exact Or.inr ⟨R, h1, h3, e, hr.same g.size (g.block R hr.lt (by omega))⟩
theorem mark_ownR (lo hi : Nat) (a : Option Addr) (c : Nat) (l : List Rc) (w : World) (hn : l.length ≤ 1048576) (h : OwnR lo hi a l w) :
    Calls Try.prog 28 #[.slice a l.length c, .int .i64 1] w fun e w' => e = .returned (.int .i64 (1 + 4 * l.length : Nat)) ∧ OwnR lo hi a (rmarks l.length 1) w' ∧ Out lo hi w w' := by
  rcases h with rfl | ⟨R, h1, h3, rfl, hr⟩
  · exact (markRecordS_none a c 1 w).mono fun e w' ⟨he, hb⟩ => ⟨he, Or.inl rfl, by subst hb; exact Out.refl _ _ _⟩
  · exact (markRecordS_row R c 1 l w hn (by omega) (by omega) hr).mono fun e w' ⟨he, hrow, hb⟩ => ⟨he, Or.inr ⟨R, h1, h3, rfl, hrow⟩, Out.ofBut hb h1 h3⟩
theorem held_ownR (lo hi : Nat) (a : Option Addr) (c n : Nat) (w : World) (hn : n ≤ 1048576) (h : OwnR lo hi a (rmarks n 1) w) :
    Calls Try.prog 30 #[.slice a n c, .int .i64 1] w fun e w' => e = .returned (.int .i64 (1 + 4 * n : Nat)) ∧ Below w.heap.size w w' :=
  heldRecordS_row a c 1 n w hn (by omega) (by omega) h.rs
end Go.Proofs.Ytlaafcmfddidnaa
