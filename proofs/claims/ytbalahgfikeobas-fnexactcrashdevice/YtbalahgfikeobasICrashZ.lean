/- Walks of the program's crashZone, and of the numbers made over. -/
import Derived.Test.YtbalahgfikeobasCrash0
import Derived.Test.YtbalahgfikeobasIThere
namespace Go.Proofs.Ytbalahgfikeobas
set_option maxRecDepth 100000
open Go.ChangeShapes Go.WideShapes Go.ChangeAt Go.RowKit
set_option maxHeartbeats 40000000 in
theorem crashZone_any (dd : ByteArray) (ss : Int) (ff : Bool) (n : Int) (w : World) (h0 : 0 ≤ n) (h1 : n ≤ (dd.size : Int)) (h2 : dd.size ≤ 1048576) :
    Calls Try.prog 42 #[.agg #[.string dd, .int .i64 ss, .bool ff], .int .i64 n] w fun e w' => e = .returned (.agg #[.string (dd.extract 0 n.toNat), .int .i64 n, .bool (ff && (n == (dd.size : Int)))]) ∧ Below w.heap.size w w' := by
  have hcut := fun v => cut_to dd n v h0 h1
  have HC : Hid (∀ v, Calls Try.prog 43 #[.string (dd.extract 0 n.toNat), .string ⟨#[]⟩] v fun e w' => e = .returned (.string (dd.extract 0 n.toNat)) ∧ Below v.heap.size v w') := fun v => by
    have := join_any (dd.extract 0 n.toNat) ⟨#[]⟩ v (by rw [ByteArray.size_extract]; omega) (by decide)
    rw [show dd.extract 0 n.toNat ++ (⟨#[]⟩ : ByteArray) = dd.extract 0 n.toNat from ByteArray.append_empty] at this
    exact this
  generalize dd.extract 0 n.toNat = xx at *
  go_enter Try.func42, Try.ntmps42
  cases ff
  · go_wp2_with fail
    first
      | go_region_with (first | (go_at_call 43; refine (HC.out _).mono ?_; rintro e w9 ⟨rfl, b9⟩; have z0 : w9.cell? ⟨w.heap.size, 0, none⟩ = some (.string dd) := (by rw [b9.cell (p := ⟨w.heap.size, 0, none⟩) (by simp; try omega)]; go_simp); have z2 : w9.cell? ⟨w.heap.size, 2, none⟩ = some (.bool false) := (by rw [b9.cell (p := ⟨w.heap.size, 2, none⟩) (by simp; try omega)]; go_simp); have r0 : w9.cell? ⟨w.heap.size + 1, 0, none⟩ = some (.string ⟨#[]⟩) := (by rw [b9.cell (p := ⟨w.heap.size + 1, 0, none⟩) (by simp; try omega)]; go_simp); have r1 : w9.cell? ⟨w.heap.size + 1, 1, none⟩ = some (.int .i64 0) := (by rw [b9.cell (p := ⟨w.heap.size + 1, 1, none⟩) (by simp; try omega)]; go_simp); have r2 : w9.cell? ⟨w.heap.size + 1, 2, none⟩ = some (.bool false) := (by rw [b9.cell (p := ⟨w.heap.size + 1, 2, none⟩) (by simp; try omega)]; go_simp); have p0 : w9.frozen? ⟨w.heap.size + 1, 0, none⟩ = false := (by rw [b9.frozen (p := ⟨w.heap.size + 1, 0, none⟩) (by simp; try omega)]; go_simp); have p1 : w9.frozen? ⟨w.heap.size + 1, 1, none⟩ = false := (by rw [b9.frozen (p := ⟨w.heap.size + 1, 1, none⟩) (by simp; try omega)]; go_simp); have p2 : w9.frozen? ⟨w.heap.size + 1, 2, none⟩ = false := (by rw [b9.frozen (p := ⟨w.heap.size + 1, 2, none⟩) (by simp; try omega)]; go_simp)))
      | fail
    all_goals
      have B9 : Hid (Below w.heap.size w w9) := ((((Below.refl _ _).alloc (Nat.le_refl _) _).alloc (by simp) _).drew).trans (b9.mono (by simp; omega))
      clear b9
      go_wp2
      refine bodyPost_ret (v := .agg #[.string xx, .int .i64 n, .bool false]) (by simp [results, Try.results42, go_sem, r0, r1, r2]) rfl ⟨by first | rfl | simp, ?_⟩
      exact ((B9.out.setCell (by show w.heap.size ≤ w.heap.size + 1; omega) _).setCell (by show w.heap.size ≤ w.heap.size + 1; omega) _).setCell (by show w.heap.size ≤ w.heap.size + 1; omega) _
  · go_wp2_with fail
    first
      | go_region_with (first | (go_at_call 43; refine (HC.out _).mono ?_; rintro e w9 ⟨rfl, b9⟩; have z0 : w9.cell? ⟨w.heap.size, 0, none⟩ = some (.string dd) := (by rw [b9.cell (p := ⟨w.heap.size, 0, none⟩) (by simp; try omega)]; go_simp); have z2 : w9.cell? ⟨w.heap.size, 2, none⟩ = some (.bool true) := (by rw [b9.cell (p := ⟨w.heap.size, 2, none⟩) (by simp; try omega)]; go_simp); have r0 : w9.cell? ⟨w.heap.size + 1, 0, none⟩ = some (.string ⟨#[]⟩) := (by rw [b9.cell (p := ⟨w.heap.size + 1, 0, none⟩) (by simp; try omega)]; go_simp); have r1 : w9.cell? ⟨w.heap.size + 1, 1, none⟩ = some (.int .i64 0) := (by rw [b9.cell (p := ⟨w.heap.size + 1, 1, none⟩) (by simp; try omega)]; go_simp); have r2 : w9.cell? ⟨w.heap.size + 1, 2, none⟩ = some (.bool false) := (by rw [b9.cell (p := ⟨w.heap.size + 1, 2, none⟩) (by simp; try omega)]; go_simp); have p0 : w9.frozen? ⟨w.heap.size + 1, 0, none⟩ = false := (by rw [b9.frozen (p := ⟨w.heap.size + 1, 0, none⟩) (by simp; try omega)]; go_simp); have p1 : w9.frozen? ⟨w.heap.size + 1, 1, none⟩ = false := (by rw [b9.frozen (p := ⟨w.heap.size + 1, 1, none⟩) (by simp; try omega)]; go_simp); have p2 : w9.frozen? ⟨w.heap.size + 1, 2, none⟩ = false := (by rw [b9.frozen (p := ⟨w.heap.size + 1, 2, none⟩) (by simp; try omega)]; go_simp)))
      | fail
    all_goals
      have B9 : Hid (Below w.heap.size w w9) := ((((Below.refl _ _).alloc (Nat.le_refl _) _).alloc (by simp) _).drew).trans (b9.mono (by simp; omega))
      clear b9
      go_wp2
      refine bodyPost_ret (v := .agg #[.string xx, .int .i64 n, .bool (n == (dd.size : Int))]) (by simp [results, Try.results42, go_sem, r0, r1, r2]) rfl ⟨by first | rfl | simp, ?_⟩
      exact ((B9.out.setCell (by show w.heap.size ≤ w.heap.size + 1; omega) _).setCell (by show w.heap.size ≤ w.heap.size + 1; omega) _).setCell (by show w.heap.size ≤ w.heap.size + 1; omega) _
theorem infoI : (Try.prog.info? 3).map (fun i => (i.zero, i.size, i.bytes)) = some (some (.int .i64 0), 1, 8) := by kernel_rfl
theorem make_ints (n : Nat) (hn : n ≤ 1048576) (W : World) : (Instr.makeSlice 37 (.int .i64 (n : Int)) (.int .i64 (n : Int))).run Try.prog W =
    .ok (.slice (some ⟨W.heap.size, 0, none⟩) n n) (W.alloc (.cells (madeCells (Value.int .i64 0).cells n) 3)) := by
  obtain ⟨i0, hi, hz0, hz1, hz2⟩ := info_parts infoI
  have h := run_make (P := Try.prog) W 37 3 i0 _ Try.underlying37 hi hz0 .i64 .i64 (n : Int) (n : Int) (by omega) (by omega) (by rw [hz2]; omega) (by omega)
  rw [hz1] at h
  simpa using h
theorem IRow.made (w : World) (n : Nat) : IRow w.heap.size (List.replicate n 0) (w.alloc (.cells (madeCells (Value.int .i64 0).cells n) 3)) := by
  have := GRow.made w 3 n #[.int .i64 0]
  unfold IRow
  rw [List.map_replicate]
  have e : (#[Value.int .i64 0] : Array Value).size = 1 := rfl
  rw [e, Nat.mul_one] at this
  exact this
set_option maxHeartbeats 1000000 in
theorem toIntS_any (a : Option Addr) (cap : Nat) (l : List Int) (w : World) (hn : l.length ≤ 1048576) (hI : Is w.heap.size a l w) :
    Calls Try.prog 18 #[.slice a l.length cap] w fun e w' => ∃ b c, e = .returned (.slice b l.length c) ∧ OwnI w.heap.size w'.heap.size b l w' ∧ Below w.heap.size w w' := by
  have HI : Hid (Is w.heap.size a l w) := hI
  clear hI
  have hmk := make_ints l.length hn
  have hr0 := IRow.made w l.length
  generalize madeCells (Value.int .i64 0).cells l.length = M at *
  have HR : Hid (IRow w.heap.size (List.replicate l.length 0) (w.alloc (.cells M 3))) := hr0
  clear hr0
  go_enter Try.func18, Try.ntmps18
  go_wp2
  go_loopw [4] (fun i wr => ∃ (k : Nat) (ys : List Int), k ≤ l.length ∧ i = .int .i64 k ∧ ys.length = l.length ∧ ys.take k = l.take k ∧ IRow w.heap.size ys wr ∧ Below w.heap.size w wr) (fun i _ => l.length - (intOf i).toNat)
  case atStart => exact ⟨0, List.replicate l.length 0, Nat.zero_le _, rfl, by simp, rfl, HR.out, (Below.refl _ _).alloc (Nat.le_refl _) _⟩
  case round =>
    obtain ⟨k, ys, hk, rfl, hy, htk, hrow, hbel⟩ := hrel
    have HROW : Hid (IRow w.heap.size ys wr) := hrow
    have HBEL : Hid (Below w.heap.size w wr) := hbel
    have HTK : Hid (ys.take k = l.take k) := htk
    by_cases hlt : k < l.length
    · obtain ⟨b, off, rfl, hb, hc⟩ := HI.out.cell (by omega)
      have x0 := (hbel.cell (p := ⟨b, off + k, none⟩) hb).trans (hc k hlt)
      have y0 := hrow.cell k (by omega)
      have f0 := hrow.free k (by omega)
      clear hrow hbel htk hc
      go_wp2
      go_roundw
      case rel =>
        refine ⟨k + 1, ys.set k l[k], by omega, by go_num, by simpa using hy, ?_, HROW.out.set k (by omega) _, HBEL.out.setCell (Nat.le_refl _) _⟩
        have hky : k < ys.length := by omega
        rw [take_snoc _ k (by simpa using hky), take_snoc l k hlt, List.take_set_of_le (Nat.le_refl _), HTK.out, List.getElem_set_self]
      case measure => simp [intOf]; omega
    · obtain rfl : k = l.length := by omega
      rw [List.take_length, List.take_of_length_le (by omega)] at htk
      subst htk
      clear hrow hbel
      go_wp2
      go_ret
      have hO : OwnI w.heap.size wr.heap.size (some ⟨w.heap.size, 0, none⟩) ys wr := Or.inr ⟨_, Nat.le_refl _, HROW.out.lt, rfl, HROW.out⟩
      first
        | exact ⟨_, _, rfl, hO, HBEL.out⟩
        | exact ⟨_, ⟨_, rfl⟩, hO, HBEL.out⟩
        | exact ⟨hO, HBEL.out⟩
end Go.Proofs.Ytbalahgfikeobas
