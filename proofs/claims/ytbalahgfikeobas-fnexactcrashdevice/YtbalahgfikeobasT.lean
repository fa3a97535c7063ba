/- Walks of the laws' helpers over devices: a device made over. -/
import Derived.Test.YtbalahgfikeobasH
import Derived.Laws.MakeOwn
namespace Go.Proofs.Ytbalahgfikeobas
set_option maxRecDepth 100000
open Go.ChangeShapes Go.WideShapes Go.ChangeAt Go.RowKit
set_option maxHeartbeats 400000 in
theorem toZone_any (z : Zn) (w : World) :
    Calls Try.prog 45 #[.agg #[.string z.data, .int .i64 z.sure, .bool z.full]] w fun e w' => e = .returned (.agg #[.string z.data, .int .i64 z.sure, .bool z.full]) ∧ Below w.heap.size w w' := by
  obtain ⟨dd, ss, ff⟩ := z
  go_enter Try.func45, Try.ntmps45
  go_wp2
  refine bodyPost_ret (v := .agg #[.string dd, .int .i64 ss, .bool ff]) (by simp [results, Try.results45, go_sem]) rfl ⟨rfl, ?_⟩
  exact (((Below.refl _ _).alloc (Nat.le_refl _) _).alloc (by simp) _).alloc (by simp; omega) _
theorem info52 : (Try.prog.info? 52).map (fun i => (i.zero, i.size, i.bytes)) = some (some (.agg #[.string ⟨#[]⟩, .int .i64 0, .bool false]), 3, 32) := by kernel_rfl
theorem make_zones (n : Nat) (hn : n ≤ 1048576) (W : World) : (Instr.makeSlice 26 (.int .i64 (n : Int)) (.int .i64 (n : Int))).run Try.prog W =
    .ok (.slice (some ⟨W.heap.size, 0, none⟩) n n) (W.alloc (.cells (madeCells (Value.agg #[.string ⟨#[]⟩, .int .i64 0, .bool false]).cells (n * 3)) 52)) := by
  obtain ⟨i0, hi, hz0, hz1, hz2⟩ := info_parts info52
  have h := run_make (P := Try.prog) W 26 52 i0 _ Try.underlying26 hi hz0 .i64 .i64 (n : Int) (n : Int) (by omega) (by omega) (by rw [hz2]; omega) (by omega)
  rw [hz1] at h
  simpa using h
set_option maxHeartbeats 1000000 in
theorem toZoneS_any (a : Option Addr) (cap : Nat) (zs : List Zn) (w : World) (hn : zs.length ≤ 1048576) (hZ : Zs w.heap.size a zs w) :
    Calls Try.prog 31 #[.slice a zs.length cap] w fun e w' => e = .returned (.slice (some ⟨w.heap.size, 0, none⟩) zs.length zs.length) ∧ ZRow w.heap.size zs w' ∧ Below w.heap.size w w' := by
  have HZ : Hid (Zs w.heap.size a zs w) := hZ
  clear hZ
  have hmk := make_zones zs.length hn
  have hr0 := ZRow.made w zs.length
  generalize madeCells (Value.agg #[.string ⟨#[]⟩, .int .i64 0, .bool false]).cells (zs.length * 3) = M at *
  have HR : Hid (ZRow w.heap.size (List.replicate zs.length zeroZ) (w.alloc (.cells M 52))) := hr0
  clear hr0
  go_enter Try.func31, Try.ntmps31
  go_wp2
  go_loopw [4] (fun i wr => ∃ (k : Nat) (ys : List Zn), k ≤ zs.length ∧ i = .int .i64 k ∧ ys.length = zs.length ∧ ys.take k = zs.take k ∧ ZRow w.heap.size ys wr ∧ Below w.heap.size w wr) (fun i _ => zs.length - (intOf i).toNat)
  case atStart => exact ⟨0, List.replicate zs.length zeroZ, Nat.zero_le _, rfl, by simp, rfl, HR.out, (Below.refl _ _).alloc (Nat.le_refl _) _⟩
  case round =>
    obtain ⟨k, ys, hk, rfl, hy, htk, hrow, hbel⟩ := hrel
    have HROW : Hid (ZRow w.heap.size ys wr) := hrow
    have HBEL : Hid (Below w.heap.size w wr) := hbel
    have HTK : Hid (ys.take k = zs.take k) := htk
    by_cases hlt : k < zs.length
    · obtain ⟨b, off, rfl, hb, hcells⟩ := HZ.out.cell (by omega)
      obtain ⟨c0, c1, c2⟩ := hcells k hlt
      have hb' : ∀ o, wr.cell? ⟨b, o, none⟩ = w.cell? ⟨b, o, none⟩ := fun o => hbel.cell (p := ⟨b, o, none⟩) hb
      rw [← hb'] at c0 c1 c2
      clear hcells hb'
      have HC : Hid (∀ v, Calls Try.prog 45 #[.agg #[.string zs[k].data, .int .i64 zs[k].sure, .bool zs[k].full]] v fun e w' => e = .returned (.agg #[.string zs[k].data, .int .i64 zs[k].sure, .bool zs[k].full]) ∧ Below v.heap.size v w') := fun v => toZone_any zs[k] v
      obtain ⟨y0, y1, y2⟩ := hrow.cell k (by omega)
      have f0 := hrow.free (k * 3) (by omega)
      have f1 := hrow.free (k * 3 + 1) (by omega)
      have f2 := hrow.free (k * 3 + 2) (by omega)
      have hszr := hbel.size
      have hltr := hrow.lt
      clear hrow hbel htk
      go_wp2_with fail
      refine (HC.out _).mono ?_
      rintro e w1 ⟨rfl, b1⟩
      have hc1 : ∀ o, w1.cell? ⟨w.heap.size, o, none⟩ = wr.cell? ⟨w.heap.size, o, none⟩ := fun o => b1.cell (p := ⟨w.heap.size, o, none⟩) hltr
      have hf1 : ∀ o, w1.frozen? ⟨w.heap.size, o, none⟩ = wr.frozen? ⟨w.heap.size, o, none⟩ := fun o => b1.frozen (p := ⟨w.heap.size, o, none⟩) hltr
      rw [← hc1] at y0 y1 y2
      rw [← hf1] at f0 f1 f2
      clear hc1 hf1
      have HB1 : Hid (Below wr.heap.size wr w1) := b1
      clear b1
      go_wp2
      go_roundw
      case rel =>
        refine ⟨k + 1, ys.set k zs[k], by omega, by go_num, by simpa using hy, ?_, (HROW.out.below HB1.out).set k (by omega) zs[k], ?_⟩
        · have hky : k < ys.length := by omega
          rw [take_snoc _ k (by simpa using hky), take_snoc zs k hlt, List.take_set_of_le (Nat.le_refl _), HTK.out, List.getElem_set_self]
        · exact (((HBEL.out.trans (HB1.out.mono hszr)).setCell (Nat.le_refl _) _).setCell (Nat.le_refl _) _).setCell (Nat.le_refl _) _
      case measure => simp [intOf]; omega
    · obtain rfl : k = zs.length := by omega
      rw [List.take_length, List.take_of_length_le (by omega)] at htk
      subst htk
      clear hrow hbel
      go_wp2
      go_ret
      exact ⟨rfl, HROW.out, HBEL.out⟩
set_option maxHeartbeats 1000000 in
theorem toDevice_any (a : Option Addr) (cap : Nat) (zs : List Zn) (w : World) (hn : zs.length ≤ 1048576) (hZ : Zs w.heap.size a zs w) :
    Calls Try.prog 10 #[.agg #[.slice a zs.length cap]] w fun e w' => ∃ R, w.heap.size ≤ R ∧ e = .returned (.agg #[.slice (some ⟨R, 0, none⟩) zs.length zs.length]) ∧ ZRow R zs w' ∧ Below w.heap.size w w' := by
  have HZ : Hid (∀ o1 o2 o3, Zs (((w.alloc o1).alloc o2).alloc o3).heap.size a zs (((w.alloc o1).alloc o2).alloc o3)) := fun o1 o2 o3 => by
    refine (hZ.below ((((Below.refl _ _).alloc (Nat.le_refl _) _).alloc (by simp) _).alloc (by simp; omega) _)).mono (by simp; omega)
  clear hZ
  go_enter Try.func10, Try.ntmps10
  go_wp2_with fail
  refine (toZoneS_any a cap zs _ hn (HZ.out _ _ _)).mono ?_
  rintro e w1 ⟨rfl, hrow, b1⟩
  have hs3 : (((w.alloc (.cells #[.slice a zs.length cap] 24)).alloc (.cells #[.slice none 0 0] 28)).alloc (.cells #[.slice none 0 0] 28)).heap.size = w.heap.size + 3 := by simp
  rw [hs3] at hrow b1 ⊢
  have hd1 : w1.cell? ⟨w.heap.size + 1, 0, none⟩ = some (.slice none 0 0) := by
    rw [b1.cell (p := ⟨w.heap.size + 1, 0, none⟩) (by show w.heap.size + 1 < _; omega)]; go_simp
  have hd2 : w1.cell? ⟨w.heap.size + 1 + 1, 0, none⟩ = some (.slice none 0 0) := by
    rw [b1.cell (p := ⟨w.heap.size + 1 + 1, 0, none⟩) (by show w.heap.size + 1 + 1 < _; omega)]; go_simp
  have hf1 : w1.frozen? ⟨w.heap.size + 1, 0, none⟩ = false := by
    rw [b1.frozen (p := ⟨w.heap.size + 1, 0, none⟩) (by show w.heap.size + 1 < _; omega)]; go_simp
  have hf2 : w1.frozen? ⟨w.heap.size + 1 + 1, 0, none⟩ = false := by
    rw [b1.frozen (p := ⟨w.heap.size + 1 + 1, 0, none⟩) (by show w.heap.size + 1 + 1 < _; omega)]; go_simp
  have HB : Hid (Below w.heap.size w w1) := ((((Below.refl _ _).alloc (Nat.le_refl _) _).alloc (by simp) _).alloc (by simp; omega) _).trans (b1.mono (by omega))
  have HROW : Hid (ZRow (w.heap.size + 3) zs w1) := hrow
  clear hrow b1 hs3 HZ
  go_wp2
  refine bodyPost_ret (v := .agg #[.slice (some ⟨w.heap.size + 3, 0, none⟩) zs.length zs.length]) (by simp [results, Try.results10, go_sem, hd1]) rfl ⟨w.heap.size + 3, by omega, rfl, ?_, ?_⟩
  · exact HROW.out.same (by simp [World.setCell]) ((Below.heap_setCell _ _ _ _ (by show w.heap.size + 3 ≠ w.heap.size + 1; omega)).trans (Below.heap_setCell _ _ _ _ (by show w.heap.size + 3 ≠ w.heap.size + 1 + 1; omega)))
  · exact (HB.out.setCell (by show w.heap.size ≤ w.heap.size + 1 + 1; omega) _).setCell (by show w.heap.size ≤ w.heap.size + 1; omega) _
end Go.Proofs.Ytbalahgfikeobas
