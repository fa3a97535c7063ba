/- Walks of the laws' helpers over stretches. -/
import Derived.Test.YtmlmllhcoobijabX
import Derived.Test.YtmlmllhcoobijabChecked
import Derived.ProofKit
import Derived.Deep.RegionWith
import Derived.Laws.MakeOwn
namespace Go.Proofs.Ytmlmllhcoobijab
set_option maxRecDepth 100000
open Go.ChangeShapes Go.WideShapes Go.ChangeAt Go.RowKit G00541
theorem ret_i {k : IntKind} {a b : Int} (h : a = b) : Ending.returned (.int k a) = .returned (.int k b) := by rw [h]
theorem val_i {k : IntKind} {a b : Int} (h : a = b) : Value.int k a = .int k b := by rw [h]
theorem ret_bool {a b : Bool} (h : a = b) : Ending.returned (.bool a) = .returned (.bool b) := by rw [h]
set_option maxHeartbeats 400000 in
theorem szStretchS_any (a : Option Addr) (cap n : Nat) (left : Int) (w : World) (h0 : 0 ≤ left) (h1 : left ≤ 1048576) (hn : n ≤ 9223372036854775807) :
    Calls Try.prog 5 #[.slice a n cap, .int .i64 left] w fun e w' => (∃ r : Int, e = .returned (.int .i64 r) ∧ r ≤ 1048576 ∧ (0 ≤ r → n ≤ 1048576)) ∧ w' = w := by
  by_cases g : (n : Int) ≤ left
  · have hd : decide (left - (n : Int) < 0) = false := by simp; omega
    go_enter Try.func5, Try.ntmps5
    go_wp2
    go_ret
    exact ⟨⟨_, rfl, by omega, fun _ => by omega⟩, rfl⟩
  · have hd : decide (left - (n : Int) < 0) = true := by simp; omega
    go_enter Try.func5, Try.ntmps5
    go_wp2
    go_ret
    exact ⟨⟨-1, rfl, by omega, fun h => by omega⟩, rfl⟩
theorem infoX : (Try.prog.info? 40).map (fun i => (i.zero, i.size, i.bytes)) = some (some (.agg #[.int .i64 0, .int .i64 0, .int .i64 0]), 3, 24) := by kernel_rfl
theorem make_xs (n : Nat) (hn : n ≤ 1048576) (W : World) : (Instr.makeSlice 27 (.int .i64 (n : Int)) (.int .i64 (n : Int))).run Try.prog W =
    .ok (.slice (some ⟨W.heap.size, 0, none⟩) n n) (W.alloc (.cells (madeCells (Value.agg #[.int .i64 0, .int .i64 0, .int .i64 0]).cells (n * 3)) 40)) := by
  obtain ⟨i0, hi, hz0, hz1, hz2⟩ := info_parts infoX
  have h := run_make (P := Try.prog) W 27 40 i0 _ Try.underlying27 hi hz0 .i64 .i64 (n : Int) (n : Int) (by omega) (by omega) (by rw [hz2]; omega) (by omega)
  rw [hz1] at h
  simpa using h
set_option maxHeartbeats 400000 in
theorem toStretch_any (x : Sx) (w : World) :
    Calls Try.prog 19 #[.agg #[.int .i64 x.at_, .int .i64 x.long, .int .i64 x.place]] w fun e w' => e = .returned (.agg #[.int .i64 x.at_, .int .i64 x.long, .int .i64 x.place]) ∧ Below w.heap.size w w' := by
  obtain ⟨p, n, c⟩ := x
  go_enter Try.func19, Try.ntmps19
  go_wp2
  refine bodyPost_ret (v := .agg #[.int .i64 p, .int .i64 n, .int .i64 c]) (by simp [results, Try.results19, go_sem]) rfl ⟨rfl, ?_⟩
  exact (((Below.refl _ _).alloc (Nat.le_refl _) _).alloc (by simp) _).alloc (by simp; omega) _
set_option maxHeartbeats 1000000 in
theorem toStretchS_any (a : Option Addr) (cap : Nat) (l : List Sx) (w : World) (hn : l.length ≤ 1048576) (hZ : Xs w.heap.size a l w) :
    Calls Try.prog 7 #[.slice a l.length cap] w fun e w' => e = .returned (.slice (some ⟨w.heap.size, 0, none⟩) l.length l.length) ∧ XRow w.heap.size l w' ∧ Below w.heap.size w w' := by
  have HZ : Hid (Xs w.heap.size a l w) := hZ
  clear hZ
  have hmk := make_xs l.length hn
  have hr0 := XRow.made w l.length
  generalize madeCells (Value.agg #[.int .i64 0, .int .i64 0, .int .i64 0]).cells (l.length * 3) = M at *
  have HR : Hid (XRow w.heap.size (List.replicate l.length zeroX) (w.alloc (.cells M 40))) := hr0
  clear hr0
  go_enter Try.func7, Try.ntmps7
  go_wp2
  go_loopw [4] (fun i wr => ∃ (k : Nat) (ys : List Sx), k ≤ l.length ∧ i = .int .i64 k ∧ ys.length = l.length ∧ ys.take k = l.take k ∧ XRow w.heap.size ys wr ∧ Below w.heap.size w wr) (fun i _ => l.length - (intOf i).toNat)
  case atStart => exact ⟨0, List.replicate l.length zeroX, Nat.zero_le _, rfl, by simp, rfl, HR.out, (Below.refl _ _).alloc (Nat.le_refl _) _⟩
  case round =>
    obtain ⟨k, ys, hk, rfl, hy, htk, hrow, hbel⟩ := hrel
    have HROW : Hid (XRow w.heap.size ys wr) := hrow
    have HBEL : Hid (Below w.heap.size w wr) := hbel
    have HTK : Hid (ys.take k = l.take k) := htk
    by_cases hlt : k < l.length
    · obtain ⟨b, off, rfl, hb, hcells⟩ := HZ.out.cell (by omega)
      obtain ⟨c0, c1, c2⟩ := hcells k hlt
      have hb' : ∀ o, wr.cell? ⟨b, o, none⟩ = w.cell? ⟨b, o, none⟩ := fun o => hbel.cell (p := ⟨b, o, none⟩) hb
      rw [← hb'] at c0 c1 c2
      clear hcells hb'
      have HC : Hid (∀ v, Calls Try.prog 19 #[.agg #[.int .i64 l[k].at_, .int .i64 l[k].long, .int .i64 l[k].place]] v fun e w' => e = .returned (.agg #[.int .i64 l[k].at_, .int .i64 l[k].long, .int .i64 l[k].place]) ∧ Below v.heap.size v w') := fun v => toStretch_any l[k] v
      obtain ⟨y0, y1, y2⟩ := hrow.cell k (by omega)
      have f0 := hrow.free (k * 3) (by omega)
      have f1 := hrow.free (k * 3 + 1) (by omega)
      have f2 := hrow.free (k * 3 + 2) (by omega)
      have hszr := hbel.size
      have hltr := hrow.lt
      clear hrow hbel htk
      go_wp2_with fail
      refine (HC.out _).mono ?_
      rintro e w1 ⟨rfl, b1⟩
      have hc1 : ∀ o, w1.cell? ⟨w.heap.size, o, none⟩ = wr.cell? ⟨w.heap.size, o, none⟩ := fun o => b1.cell (p := ⟨w.heap.size, o, none⟩) hltr
      have hf1 : ∀ o, w1.frozen? ⟨w.heap.size, o, none⟩ = wr.frozen? ⟨w.heap.size, o, none⟩ := fun o => b1.frozen (p := ⟨w.heap.size, o, none⟩) hltr
      rw [← hc1] at y0 y1 y2
      rw [← hf1] at f0 f1 f2
      clear hc1 hf1
      have HB1 : Hid (Below wr.heap.size wr w1) := b1
      clear b1
      go_wp2
      go_roundw
      case rel =>
        refine ⟨k + 1, ys.set k l[k], by omega, by go_num, by simpa using hy, ?_, (HROW.out.below HB1.out).set k (by omega) l[k], ?_⟩
        · have hky : k < ys.length := by omega
          rw [take_snoc _ k (by simpa using hky), take_snoc l k hlt, List.take_set_of_le (Nat.le_refl _), HTK.out, List.getElem_set_self]
        · exact (((HBEL.out.trans (HB1.out.mono hszr)).setCell (Nat.le_refl _) _).setCell (Nat.le_refl _) _).setCell (Nat.le_refl _) _
      case measure => simp [intOf]; omega
    · obtain rfl : k = l.length := by omega
      rw [List.take_length, List.take_of_length_le (by omega)] at htk
      subst htk
      clear hrow hbel
      go_wp2
      go_ret
      exact ⟨rfl, HROW.out, HBEL.out⟩
set_option maxHeartbeats 400000 in
theorem eqStretch_same (p n c : Int) (w : World) :
    Calls Try.prog 22 #[.agg #[.int .i64 p, .int .i64 n, .int .i64 c], .agg #[.int .i64 p, .int .i64 n, .int .i64 c]] w fun e w' => e = .returned (.bool true) ∧ Below w.heap.size w w' := by
  go_enter Try.func22, Try.ntmps22
  go_wp2
  go_ret
  exact ⟨rfl, ((Below.refl _ _).alloc (Nat.le_refl _) _).alloc (by simp) _⟩
set_option maxHeartbeats 2000000 in
theorem eqStretchS_same (a1 a2 : Option Addr) (c1 c2 : Nat) (l : List Sx) (w : World) (hn : l.length ≤ 1048576) (h1 : Xs w.heap.size a1 l w) (h2 : Xs w.heap.size a2 l w) :
    Calls Try.prog 10 #[.slice a1 l.length c1, .slice a2 l.length c2] w fun e w' => e = .returned (.bool true) ∧ Below w.heap.size w w' := by
  have H1 : Hid (Xs w.heap.size a1 l w) := h1
  have H2 : Hid (Xs w.heap.size a2 l w) := h2
  clear h1 h2
  go_enter Try.func10, Try.ntmps10
  go_wp2
  go_loopw [5] (fun i wr => ∃ k : Nat, k ≤ l.length ∧ i = .int .i64 k ∧ Below w.heap.size w wr) (fun i _ => l.length - (intOf i).toNat)
  case atStart => exact ⟨0, Nat.zero_le _, rfl, Below.refl _ _⟩
  case round =>
    obtain ⟨k, hk, rfl, hbel⟩ := hrel
    have HBEL : Hid (Below w.heap.size w wr) := hbel
    by_cases hlt : k < l.length
    · obtain ⟨b1, o1, rfl, hb1, hc1⟩ := H1.out.cell (by omega)
      obtain ⟨b2, o2, rfl, hb2, hc2⟩ := H2.out.cell (by omega)
      obtain ⟨x0, x1, x2⟩ := hc1 k hlt
      obtain ⟨y0, y1, y2⟩ := hc2 k hlt
      have hb1' : ∀ o, wr.cell? ⟨b1, o, none⟩ = w.cell? ⟨b1, o, none⟩ := fun o => hbel.cell (p := ⟨b1, o, none⟩) hb1
      have hb2' : ∀ o, wr.cell? ⟨b2, o, none⟩ = w.cell? ⟨b2, o, none⟩ := fun o => hbel.cell (p := ⟨b2, o, none⟩) hb2
      rw [← hb1'] at x0 x1 x2
      rw [← hb2'] at y0 y1 y2
      clear hc1 hc2 hb1' hb2' hbel
      generalize l[k].at_ = dd at *
      generalize l[k].long = ss at *
      generalize l[k].place = ff at *
      go_wp2_with fail
      go_region_with (go_at_call 22; refine (eqStretch_same dd ss ff _).mono ?_; rintro e w9 ⟨rfl, b9⟩)
      all_goals
        have HB9 : Hid (Below w.heap.size w w9) := HBEL.out.trans ((show Below wr.heap.size wr w9 from ⟨b9.os, b9.tape, b9.output, b9.size, b9.block⟩).mono HBEL.out.size)
        clear b9
        go_wp2
        go_roundw
        · exact ⟨k + 1, by omega, by go_num, HB9.out⟩
        · simp [intOf]; omega
    · clear hbel
      go_wp2
      go_ret
      exact ⟨rfl, HBEL.out⟩
def mx (k : Nat) : Sx := ⟨k, (k : Int) + 1, (k : Int) + 1 + 1⟩
def xmarks (n k : Nat) : List Sx := (List.range n).map fun i => mx (k + 3 * i)
theorem xmarks_len (n k : Nat) : (xmarks n k).length = n := by simp [xmarks]
theorem xmarks_at (n k i : Nat) (h : i < (xmarks n k).length) : (xmarks n k)[i] = mx (k + 3 * i) := by simp [xmarks]
set_option maxHeartbeats 1000000 in
theorem markStretchS_row (R cap k0 : Nat) (l : List Sx) (w : World) (hn : l.length ≤ 1048576) (k1 : 1 ≤ k0) (k2 : k0 ≤ 10000000) (hR : XRow R l w) :
    Calls Try.prog 11 #[.slice (some ⟨R, 0, none⟩) l.length cap, .int .i64 k0] w fun e w' => e = .returned (.int .i64 (k0 + 3 * l.length : Nat)) ∧ XRow R (xmarks l.length k0) w' ∧ But R w w' := by
  have HR : Hid (XRow R l w) := hR
  clear hR
  go_enter Try.func11, Try.ntmps11
  go_wp2
  go_loopw [1, 5] (fun t i wr => ∃ (j : Nat) (ys : List Sx), j ≤ l.length ∧ i = .int .i64 j ∧ t = .int .i64 (k0 + 3 * j : Nat) ∧ ys.length = l.length ∧ ys.take j = (xmarks l.length k0).take j ∧ XRow R ys wr ∧ But R w wr) (fun _ i _ => l.length - (intOf i).toNat)
  case atStart => exact ⟨0, l, Nat.zero_le _, rfl, rfl, rfl, rfl, HR.out, But.refl _ _⟩
  case round =>
    obtain ⟨j, ys, hj, rfl, rfl, hy, htk, hrow, hbut⟩ := hrel
    have HROW : Hid (XRow R ys wr) := hrow
    have HBUT : Hid (But R w wr) := hbut
    have HTK : Hid (ys.take j = (xmarks l.length k0).take j) := htk
    by_cases hlt : j < l.length
    · obtain ⟨y0, y1, y2⟩ := hrow.cell j (by omega)
      have f0 := hrow.free (j * 3) (by omega)
      have f1 := hrow.free (j * 3 + 1) (by omega)
      have f2 := hrow.free (j * 3 + 2) (by omega)
      clear hrow hbut htk
      generalize ys[j].at_ = yd at *
      generalize ys[j].long = ye at *
      generalize ys[j].place = yf at *
      generalize hk : k0 + 3 * j = kk at *
      have hkb : kk ≤ 13145728 := by omega
      have HKK : Hid (k0 + 3 * j = kk) := hk
      clear hk
      go_wp2
      go_roundw
      case rel =>
        refine ⟨j + 1, ys.set j (mx kk), by omega, by go_num, val_i (by have := HKK.out; omega), by simpa using hy, ?_, HROW.out.set j (by omega) (mx kk), ?_⟩
        · have hjy : j < ys.length := by omega
          have hjm : j < (xmarks l.length k0).length := by rw [xmarks_len]; exact hlt
          rw [take_snoc _ j (by simpa using hjy), take_snoc _ j hjm, List.take_set_of_le (Nat.le_refl _), HTK.out, List.getElem_set_self, xmarks_at, HKK.out]
        · exact ((HBUT.out.setCell _ _).setCell _ _).setCell _ _
      case measure => simp [intOf]; omega
    · obtain rfl : j = l.length := by omega
      clear hrow hbut
      go_wp2
      go_ret
      rw [List.take_of_length_le (by omega), List.take_of_length_le (by rw [xmarks_len]; omega)] at htk
      subst htk
      exact ⟨rfl, HROW.out, HBUT.out⟩
set_option maxHeartbeats 400000 in
theorem markStretchS_none (a : Option Addr) (cap k0 : Nat) (w : World) :
    Calls Try.prog 11 #[.slice a 0 cap, .int .i64 k0] w fun e w' => e = .returned (.int .i64 k0) ∧ w' = w := by
  go_enter Try.func11, Try.ntmps11
  go_wp2
  go_loop [1, 5] (fun t i => t = .int .i64 k0 ∧ i = .int .i64 0) (fun _ _ => 0)
  case atStart => exact ⟨rfl, rfl⟩
  case round =>
    obtain ⟨rfl, rfl⟩ := hrel
    go_wp2
    go_ret
    exact ⟨rfl, rfl⟩
set_option maxHeartbeats 2000000 in
theorem heldStretchS_row (a : Option Addr) (cap k0 n : Nat) (w : World) (hn : n ≤ 1048576) (k1 : 1 ≤ k0) (k2 : k0 ≤ 10000000) (hR : Xs w.heap.size a (xmarks n k0) w) :
    Calls Try.prog 16 #[.slice a n cap, .int .i64 k0] w fun e w' => e = .returned (.int .i64 (k0 + 3 * n : Nat)) ∧ w' = w := by
  have HR : Hid (Xs w.heap.size a (xmarks n k0) w) := hR
  clear hR
  have hml := xmarks_len n k0
  go_enter Try.func16, Try.ntmps16
  go_wp2
  go_loop [1, 5] (fun t i => ∃ j : Nat, j ≤ n ∧ i = .int .i64 j ∧ t = .int .i64 (k0 + 3 * j : Nat)) (fun _ i => n - (intOf i).toNat)
  case atStart => exact ⟨0, Nat.zero_le _, rfl, rfl⟩
  case round =>
    obtain ⟨j, hj, rfl, rfl⟩ := hrel
    by_cases hlt : j < n
    · obtain ⟨b, o, rfl, hb, hc⟩ := HR.out.cell (by omega)
      obtain ⟨x0, x1, x2⟩ := hc j (by omega)
      rw [xmarks_at] at x0 x1 x2
      generalize hk : k0 + 3 * j = kk at *
      have hkb : kk ≤ 13145728 := by omega
      have HKK : Hid (k0 + 3 * j = kk) := hk
      clear hk hc
      simp only [mx] at x0 x1 x2
      go_wp2
      go_round
      case rel => exact ⟨j + 1, by omega, by go_num, val_i (by have := HKK.out; omega)⟩
      case measure => simp [intOf]; omega
    · obtain rfl : j = n := by omega
      go_wp2
      go_ret
      exact ⟨rfl, rfl⟩
theorem to_ownX (a : Option Addr) (cap : Nat) (l : List Sx) (w : World) (hn : l.length ≤ 1048576) (hZ : Xs w.heap.size a l w) :
    Calls Try.prog 7 #[.slice a l.length cap] w fun e w' => ∃ b c, e = .returned (.slice b l.length c) ∧ OwnX w.heap.size w'.heap.size b l w' ∧ Below w.heap.size w w' :=
  (toStretchS_any a cap l w hn hZ).mono fun _ _ ⟨he, hrow, hb⟩ => ⟨_, _, he, Or.inr ⟨_, Nat.le_refl _, hrow.lt, rfl, hrow⟩, hb⟩
theorem mark_ownX (lo hi : Nat) (a : Option Addr) (c : Nat) (l : List Sx) (w : World) (hn : l.length ≤ 1048576) (k0 : Nat) (k1 : 1 ≤ k0) (k2 : k0 ≤ 10000000) (h : OwnX lo hi a l w) :
    Calls Try.prog 11 #[.slice a l.length c, .int .i64 k0] w fun e w' => e = .returned (.int .i64 (k0 + 3 * l.length : Nat)) ∧ OwnX lo hi a (xmarks l.length k0) w' ∧ Out lo hi w w' := by
  rcases h with rfl | ⟨R, h1, h3, rfl, hr⟩
  · exact (markStretchS_none a c k0 w).mono fun e w' ⟨he, hb⟩ => ⟨he, Or.inl rfl, by subst hb; exact Out.refl _ _ _⟩
  · exact (markStretchS_row R c k0 l w hn k1 k2 hr).mono fun e w' ⟨he, hrow, hb⟩ => ⟨he, Or.inr ⟨R, h1, h3, rfl, hrow⟩, Out.ofBut hb h1 h3⟩
theorem held_ownX (lo hi : Nat) (a : Option Addr) (c n : Nat) (w : World) (hn : n ≤ 1048576) (h : OwnX lo hi a (xmarks n 1) w) :
    Calls Try.prog 16 #[.slice a n c, .int .i64 1] w fun e w' => e = .returned (.int .i64 (1 + 3 * n : Nat)) ∧ Below w.heap.size w w' :=
  (heldStretchS_row a c 1 n w hn (by omega) (by omega) h.xs).mono fun _ _ ⟨he, hw⟩ => ⟨he, by subst hw; exact Below.refl _ _⟩
end Go.Proofs.Ytmlmllhcoobijab
