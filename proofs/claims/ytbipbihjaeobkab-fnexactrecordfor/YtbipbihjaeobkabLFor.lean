/- The exact law of RecordFor: its walk. -/
import Derived.Test.YtbipbihjaeobkabOForI
import Derived.Test.YtbipbihjaeobkabERec
namespace Go.Proofs.Ytbipbihjaeobkab
set_option maxRecDepth 100000
open Go.ChangeShapes Go.WideShapes Go.ChangeAt Go.RowKit G00541
theorem szOp_any (k p n m : Int) (D : ByteArray) (left : Int) (w : World) (h0 : 0 ≤ left) (h1 : left ≤ 1048576) (hz : D.size ≤ 9223372036854775807) :
    Calls Try.prog 10 #[.agg #[.int .i64 k, .int .i64 p, .int .i64 n, .string D, .int .i64 m], .int .i64 left] w fun e w' => (∃ r : Int, e = .returned (.int .i64 r) ∧ r ≤ 1048576 ∧ (0 ≤ r → D.size ≤ 1048576)) ∧ Below w.heap.size w w' := by
  by_cases g : (D.size : Int) ≤ left
  · have hd : decide (left - (D.size : Int) < 0) = false := by simp; omega
    go_enter Try.func10, Try.ntmps10
    go_wp2
    go_ret
    exact ⟨⟨_, rfl, by omega, fun _ => by omega⟩, (Below.refl _ _).alloc (Nat.le_refl _) _⟩
  · have hd : decide (left - (D.size : Int) < 0) = true := by simp; omega
    go_enter Try.func10, Try.ntmps10
    go_wp2
    go_ret
    exact ⟨⟨-1, rfl, by omega, fun h => by omega⟩, (Below.refl _ _).alloc (Nat.le_refl _) _⟩
theorem toOp_any (k p n m : Int) (D : ByteArray) (w : World) :
    Calls Try.prog 12 #[.agg #[.int .i64 k, .int .i64 p, .int .i64 n, .string D, .int .i64 m]] w fun e w' => e = .returned (.agg #[.int .i64 k, .int .i64 p, .int .i64 n, .string D, .int .i64 m]) ∧ Below w.heap.size w w' := by
  go_enter Try.func12, Try.ntmps12
  go_wp2
  refine bodyPost_ret (v := .agg #[.int .i64 k, .int .i64 p, .int .i64 n, .string D, .int .i64 m]) (by simp [results, Try.results12, go_sem]) rfl ⟨rfl, ?_⟩
  exact (((Below.refl _ _).alloc (Nat.le_refl _) _).alloc (by simp) _).alloc (by simp; omega) _
set_option maxHeartbeats 2000000 in
theorem walk_RecordFor (o : Op) (w : World) (ho : fitO o) : Calls Try.prog 4 #[oval o] w fun e w' => e = .returned (.bool true) ∧ Below w.heap.size w w' := by
  obtain ⟨k, p, n, D, m⟩ := o
  obtain ⟨-, -, -, -, hz⟩ := ho
  have hz' : D.size ≤ 9223372036854775807 := hz
  show Calls Try.prog 4 #[.agg #[.int .i64 k, .int .i64 p, .int .i64 n, .string D, .int .i64 m]] w _
  have HSZ := hid (fun v => szOp_any k p n m D 1048576 v (by decide) (by decide) hz')
  have HTO := hid (fun v => toOp_any k p n m D v)
  have HS := hid (fun v => srec_any k p n m D v)
  have HI := hid (fun v => irec_any k p n m D v)
  obtain ⟨rv, hrv⟩ : ∃ rv, recV ⟨k, p, n, D, m⟩ = rv := ⟨_, rfl⟩
  obtain ⟨ok, hok⟩ : ∃ ok, recOk ⟨k, p, n, D, m⟩ = ok := ⟨_, rfl⟩
  obtain ⟨rk, rp, rn, rd, rfl⟩ : ∃ rk rp rn rd, rv = .agg #[.int .i64 rk, .int .i64 rp, .int .i64 rn, .string rd] := by
    rw [← hrv]
    unfold recV
    split
    · exact ⟨_, _, _, _, rfl⟩
    · exact ⟨_, _, _, _, rfl⟩
  unfold ForOut at HS HI
  rw [hrv, hok] at HS HI
  clear hz hz' hrv hok
  have HB0 := hid (boxB w (.cells #[.int .i64 k, .int .i64 p, .int .i64 n, .string D, .int .i64 m] 36))
  have HX : Hid (∀ v, Below (w.alloc (.cells #[.int .i64 k, .int .i64 p, .int .i64 n, .string D, .int .i64 m] 36)).heap.size (w.alloc (.cells #[.int .i64 k, .int .i64 p, .int .i64 n, .string D, .int .i64 m] 36)) v → v.cell? ⟨w.heap.size, 0, none⟩ = some (.int .i64 k) ∧ v.cell? ⟨w.heap.size, 1, none⟩ = some (.int .i64 p) ∧ v.cell? ⟨w.heap.size, 2, none⟩ = some (.int .i64 n) ∧ v.cell? ⟨w.heap.size, 3, none⟩ = some (.string D) ∧ v.cell? ⟨w.heap.size, 4, none⟩ = some (.int .i64 m)) := fun v g => by
    have hc : ∀ i, v.cell? ⟨w.heap.size, i, none⟩ = _ := fun i => g.cell (p := ⟨w.heap.size, i, none⟩) (by simp)
    exact ⟨by rw [hc]; go_simp, by rw [hc]; go_simp, by rw [hc]; go_simp, by rw [hc]; go_simp, by rw [hc]; go_simp⟩
  have HE := hid (fun v => eqRecord_same rk rp rn rd v)
  go_enter Try.func4, Try.ntmps4
  go_wp2_with fail
  generalize w.alloc (.cells #[.int .i64 k, .int .i64 p, .int .i64 n, .string D, .int .i64 m] 36) = w0 at *
  refine (HSZ.out _).mono ?_
  rintro e w1 ⟨⟨r, rfl, -, -⟩, g1⟩
  have B1 : Hid (Below w0.heap.size w0 w1) := g1
  clear g1 HSZ
  by_cases r0 : r < 0
  · have hd : decide (r < 0) = true := decide_eq_true r0
    go_wp2
    go_ret
    exact ⟨rfl, HB0.out.trans (B1.out.mono HB0.out.size)⟩
  have hd : decide (r < 0) = false := decide_eq_false r0
  obtain ⟨x0, x1, x2, x3, x4⟩ := HX.out _ B1.out
  go_wp2_with fail
  refine (HTO.out _).mono ?_
  rintro e w2 ⟨rfl, g2⟩
  have B2 : Hid (Below w0.heap.size w0 w2) := B1.out.trans (g2.mono B1.out.size)
  clear g2 x0 x1 x2 x3 x4 B1
  go_wp2_with fail
  refine (HS.out _).mono ?_
  rintro e w3 ⟨rfl, g3⟩
  have B3 : Hid (Below w0.heap.size w0 w3) := B2.out.trans (g3.mono B2.out.size)
  clear g3 B2 HS
  have B4 : Hid (Below w0.heap.size w0 (w3.alloc (.cells #[.int .i64 rk, .int .i64 rp, .int .i64 rn, .string rd] 39))) := B3.out.trans ((boxB _ _).mono B3.out.size)
  obtain ⟨x0, x1, x2, x3, x4⟩ := HX.out _ B4.out
  have HY : Hid (∀ v, Below (w3.heap.size + 1) (w3.alloc (.cells #[.int .i64 rk, .int .i64 rp, .int .i64 rn, .string rd] 39)) v → v.cell? ⟨w3.heap.size, 0, none⟩ = some (.int .i64 rk) ∧ v.cell? ⟨w3.heap.size, 1, none⟩ = some (.int .i64 rp) ∧ v.cell? ⟨w3.heap.size, 2, none⟩ = some (.int .i64 rn) ∧ v.cell? ⟨w3.heap.size, 3, none⟩ = some (.string rd)) := fun v g => by
    have hc : ∀ i, v.cell? ⟨w3.heap.size, i, none⟩ = _ := fun i => g.cell (p := ⟨w3.heap.size, i, none⟩) (by show w3.heap.size < w3.heap.size + 1; omega)
    exact ⟨by rw [hc]; go_simp, by rw [hc]; go_simp, by rw [hc]; go_simp, by rw [hc]; go_simp⟩
  have hs4 : (w3.alloc (.cells #[.int .i64 rk, .int .i64 rp, .int .i64 rn, .string rd] 39)).heap.size = w3.heap.size + 1 := by simp
  go_wp2_with fail
  generalize w3.alloc (.cells #[.int .i64 rk, .int .i64 rp, .int .i64 rn, .string rd] 39) = w4 at *
  refine (HTO.out _).mono ?_
  rintro e w5 ⟨rfl, g5⟩
  have B5 : Hid (Below w0.heap.size w0 w5) := B4.out.trans (g5.mono B4.out.size)
  have C5 : Hid (Below (w3.heap.size + 1) w4 w5) := by rw [← hs4]; exact g5
  clear g5 x0 x1 x2 x3 x4 B4
  go_wp2_with fail
  refine (HI.out _).mono ?_
  rintro e w6 ⟨rfl, g6⟩
  have B6 : Hid (Below w0.heap.size w0 w6) := B5.out.trans (g6.mono B5.out.size)
  have C6 : Hid (Below (w3.heap.size + 1) w4 w6) := C5.out.trans (g6.mono (by rw [← hs4]; have := C5.out.size; omega))
  clear g6 B5 C5 HI
  have B7 : Hid (Below w0.heap.size w0 (w6.alloc (.cells #[.int .i64 rk, .int .i64 rp, .int .i64 rn, .string rd] 39))) := B6.out.trans ((boxB _ _).mono B6.out.size)
  have C7 : Hid (Below (w3.heap.size + 1) w4 (w6.alloc (.cells #[.int .i64 rk, .int .i64 rp, .int .i64 rn, .string rd] 39))) := C6.out.trans ((boxB _ _).mono (by rw [← hs4]; have := C6.out.size; omega))
  obtain ⟨x0, x1, x2, x3⟩ := HY.out _ C7.out
  have z0 : (w6.alloc (.cells #[.int .i64 rk, .int .i64 rp, .int .i64 rn, .string rd] 39)).cell? ⟨w6.heap.size, 0, none⟩ = some (.int .i64 rk) := by go_simp
  have z1 : (w6.alloc (.cells #[.int .i64 rk, .int .i64 rp, .int .i64 rn, .string rd] 39)).cell? ⟨w6.heap.size, 1, none⟩ = some (.int .i64 rp) := by go_simp
  have z2 : (w6.alloc (.cells #[.int .i64 rk, .int .i64 rp, .int .i64 rn, .string rd] 39)).cell? ⟨w6.heap.size, 2, none⟩ = some (.int .i64 rn) := by go_simp
  have z3 : (w6.alloc (.cells #[.int .i64 rk, .int .i64 rp, .int .i64 rn, .string rd] 39)).cell? ⟨w6.heap.size, 3, none⟩ = some (.string rd) := by go_simp
  clear hs4
  go_wp2_with fail
  generalize w6.alloc (.cells #[.int .i64 rk, .int .i64 rp, .int .i64 rn, .string rd] 39) = w7 at *
  refine (HE.out _).mono ?_
  rintro e w8 ⟨rfl, g8⟩
  have B8 : Hid (Below w0.heap.size w0 w8) := B7.out.trans (g8.mono B7.out.size)
  clear g8 x0 x1 x2 x3 z0 z1 z2 z3 B7 C7
  cases ok
  all_goals
    go_wp2
    go_ret
    exact ⟨rfl, HB0.out.trans (B8.out.mono HB0.out.size)⟩
end Go.Proofs.Ytbipbihjaeobkab
