/- Walks of the program's crashZone. -/
import Derived.Test.YteofdaecknlkdaaCrash0
import Derived.Test.YteofdaecknlkdaaIThere
namespace Go.Proofs.Yteofdaecknlkdaa
set_option maxRecDepth 100000
open Go.ChangeShapes Go.WideShapes Go.ChangeAt Go.RowKit
set_option maxHeartbeats 40000000 in
theorem crashZone_any (dd : ByteArray) (ss : Int) (ff : Bool) (n : Int) (w : World) (h0 : 0 ≤ n) (h1 : n ≤ (dd.size : Int)) (h2 : dd.size ≤ 1048576) :
    Calls Try.prog 47 #[.agg #[.string dd, .int .i64 ss, .bool ff], .int .i64 n] w fun e w' => e = .returned (.agg #[.string (dd.extract 0 n.toNat), .int .i64 n, .bool (ff && (n == (dd.size : Int)))]) ∧ Below w.heap.size w w' := by
  have hcut := fun v => cut_to dd n v h0 h1
  have HC : Hid (∀ v, Calls Try.prog 37 #[.string (dd.extract 0 n.toNat), .string ⟨#[]⟩] v fun e w' => e = .returned (.string (dd.extract 0 n.toNat)) ∧ Below v.heap.size v w') := fun v => by
    have := join_any (dd.extract 0 n.toNat) ⟨#[]⟩ v (by rw [ByteArray.size_extract]; omega) (by decide)
    rw [show dd.extract 0 n.toNat ++ (⟨#[]⟩ : ByteArray) = dd.extract 0 n.toNat from ByteArray.append_empty] at this
    exact this
  generalize dd.extract 0 n.toNat = xx at *
  go_enter Try.func47, Try.ntmps47
  cases ff
  · go_wp2_with fail
    first
      | go_region_with (first | (go_at_call 37; refine (HC.out _).mono ?_; rintro e w9 ⟨rfl, b9⟩; have z0 : w9.cell? ⟨w.heap.size, 0, none⟩ = some (.string dd) := (by rw [b9.cell (p := ⟨w.heap.size, 0, none⟩) (by simp; try omega)]; go_simp); have z2 : w9.cell? ⟨w.heap.size, 2, none⟩ = some (.bool false) := (by rw [b9.cell (p := ⟨w.heap.size, 2, none⟩) (by simp; try omega)]; go_simp); have r0 : w9.cell? ⟨w.heap.size + 1, 0, none⟩ = some (.string ⟨#[]⟩) := (by rw [b9.cell (p := ⟨w.heap.size + 1, 0, none⟩) (by simp; try omega)]; go_simp); have r1 : w9.cell? ⟨w.heap.size + 1, 1, none⟩ = some (.int .i64 0) := (by rw [b9.cell (p := ⟨w.heap.size + 1, 1, none⟩) (by simp; try omega)]; go_simp); have r2 : w9.cell? ⟨w.heap.size + 1, 2, none⟩ = some (.bool false) := (by rw [b9.cell (p := ⟨w.heap.size + 1, 2, none⟩) (by simp; try omega)]; go_simp); have p0 : w9.frozen? ⟨w.heap.size + 1, 0, none⟩ = false := (by rw [b9.frozen (p := ⟨w.heap.size + 1, 0, none⟩) (by simp; try omega)]; go_simp); have p1 : w9.frozen? ⟨w.heap.size + 1, 1, none⟩ = false := (by rw [b9.frozen (p := ⟨w.heap.size + 1, 1, none⟩) (by simp; try omega)]; go_simp); have p2 : w9.frozen? ⟨w.heap.size + 1, 2, none⟩ = false := (by rw [b9.frozen (p := ⟨w.heap.size + 1, 2, none⟩) (by simp; try omega)]; go_simp)))
      | fail
    all_goals
      have B9 : Hid (Below w.heap.size w w9) := ((((Below.refl _ _).alloc (Nat.le_refl _) _).alloc (by simp) _).drew).trans (b9.mono (by simp; omega))
      clear b9
      go_wp2
      refine bodyPost_ret (v := .agg #[.string xx, .int .i64 n, .bool false]) (by simp [results, Try.results47, go_sem, r0, r1, r2]) rfl ⟨by first | rfl | simp, ?_⟩
      exact ((B9.out.setCell (by show w.heap.size ≤ w.heap.size + 1; omega) _).setCell (by show w.heap.size ≤ w.heap.size + 1; omega) _).setCell (by show w.heap.size ≤ w.heap.size + 1; omega) _
  · go_wp2_with fail
    first
      | go_region_with (first | (go_at_call 37; refine (HC.out _).mono ?_; rintro e w9 ⟨rfl, b9⟩; have z0 : w9.cell? ⟨w.heap.size, 0, none⟩ = some (.string dd) := (by rw [b9.cell (p := ⟨w.heap.size, 0, none⟩) (by simp; try omega)]; go_simp); have z2 : w9.cell? ⟨w.heap.size, 2, none⟩ = some (.bool true) := (by rw [b9.cell (p := ⟨w.heap.size, 2, none⟩) (by simp; try omega)]; go_simp); have r0 : w9.cell? ⟨w.heap.size + 1, 0, none⟩ = some (.string ⟨#[]⟩) := (by rw [b9.cell (p := ⟨w.heap.size + 1, 0, none⟩) (by simp; try omega)]; go_simp); have r1 : w9.cell? ⟨w.heap.size + 1, 1, none⟩ = some (.int .i64 0) := (by rw [b9.cell (p := ⟨w.heap.size + 1, 1, none⟩) (by simp; try omega)]; go_simp); have r2 : w9.cell? ⟨w.heap.size + 1, 2, none⟩ = some (.bool false) := (by rw [b9.cell (p := ⟨w.heap.size + 1, 2, none⟩) (by simp; try omega)]; go_simp); have p0 : w9.frozen? ⟨w.heap.size + 1, 0, none⟩ = false := (by rw [b9.frozen (p := ⟨w.heap.size + 1, 0, none⟩) (by simp; try omega)]; go_simp); have p1 : w9.frozen? ⟨w.heap.size + 1, 1, none⟩ = false := (by rw [b9.frozen (p := ⟨w.heap.size + 1, 1, none⟩) (by simp; try omega)]; go_simp); have p2 : w9.frozen? ⟨w.heap.size + 1, 2, none⟩ = false := (by rw [b9.frozen (p := ⟨w.heap.size + 1, 2, none⟩) (by simp; try omega)]; go_simp)))
      | fail
    all_goals
      have B9 : Hid (Below w.heap.size w w9) := ((((Below.refl _ _).alloc (Nat.le_refl _) _).alloc (by simp) _).drew).trans (b9.mono (by simp; omega))
      clear b9
      go_wp2
      refine bodyPost_ret (v := .agg #[.string xx, .int .i64 n, .bool (n == (dd.size : Int))]) (by simp [results, Try.results47, go_sem, r0, r1, r2]) rfl ⟨by first | rfl | simp, ?_⟩
      exact ((B9.out.setCell (by show w.heap.size ≤ w.heap.size + 1; omega) _).setCell (by show w.heap.size ≤ w.heap.size + 1; omega) _).setCell (by show w.heap.size ≤ w.heap.size + 1; omega) _
end Go.Proofs.Yteofdaecknlkdaa
