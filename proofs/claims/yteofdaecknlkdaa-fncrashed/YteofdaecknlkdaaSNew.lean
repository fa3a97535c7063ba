/- Walks of NewDevice, the model's and the program's. -/
import Derived.Test.YteofdaecknlkdaaThere
namespace Go.Proofs.Yteofdaecknlkdaa
set_option maxRecDepth 100000
open Go.ChangeShapes Go.WideShapes Go.ChangeAt Go.RowKit
set_option maxHeartbeats 1000000 in
theorem new_no (n : Int) (w : World) (h : n < 1 ∨ 6 < n) :
    Calls Try.prog 25 #[.int .i64 n] w fun e w' => e = .returned (.tuple #[.agg #[.slice none 0 0], .bool false]) ∧ Below w.heap.size w w' := by
  go_enter Try.func25, Try.ntmps25
  go_wp2_with fail
  refine (l1In_no _ _ _ _ h).mono ?_
  rintro e w1 ⟨rfl, rfl⟩
  go_wp2
  refine bodyPost_ret (v := .tuple #[.agg #[.slice none 0 0], .bool false]) (by simp [results, Try.results25, go_sem]) rfl ⟨rfl, ?_⟩
  exact (Below.refl _ _).alloc (Nat.le_refl _) _
set_option maxHeartbeats 1000000 in
theorem inew_no (n : Int) (w : World) (h : n < 1 ∨ 6 < n) :
    Calls Try.prog 24 #[.int .i64 n] w fun e w' => e = .returned (.tuple #[.agg #[.slice none 0 0], .bool false]) ∧ Below w.heap.size w w' := by
  by_cases g : n < 1
  · have hd : decide (n < 1) = true := by simpa using g
    go_enter Try.func24, Try.ntmps24
    go_wp2
    refine bodyPost_ret (v := .tuple #[.agg #[.slice none 0 0], .bool false]) (by simp [results, Try.results24, go_sem]) rfl ⟨rfl, ?_⟩
    exact (Below.refl _ _).alloc (Nat.le_refl _) _
  · have hd : decide (n < 1) = false := by simpa using g
    have hd2 : decide (6 < n) = true := by simp; omega
    go_enter Try.func24, Try.ntmps24
    go_wp2
    refine bodyPost_ret (v := .tuple #[.agg #[.slice none 0 0], .bool false]) (by simp [results, Try.results24, go_sem]) rfl ⟨rfl, ?_⟩
    exact (Below.refl _ _).alloc (Nat.le_refl _) _
set_option maxHeartbeats 1000000 in
theorem new_yes (n : Nat) (w : World) (h1 : 1 ≤ n) (h6 : n ≤ 6) :
    Calls Try.prog 25 #[.int .i64 n] w fun e w' => ∃ R c, w.heap.size ≤ R ∧ e = .returned (.tuple #[.agg #[.slice (some ⟨R, 0, none⟩) n c], .bool true]) ∧ ZRow R (List.replicate n zeroZ) w' ∧ Below w.heap.size w w' := by
  have hmk := make_zones n (by omega)
  have hr0 := fun v => ZRow.made v n
  generalize madeCells (Value.agg #[.string ⟨#[]⟩, .int .i64 0, .bool false]).cells (n * 3) = M at *
  have HR : Hid (∀ v : World, ZRow v.heap.size (List.replicate n zeroZ) (v.alloc (.cells M 52))) := hr0
  clear hr0
  go_enter Try.func25, Try.ntmps25
  go_wp2_with fail
  refine (l1In_yes _ _ _ _ (by omega) (by omega)).mono ?_
  rintro e w1 ⟨rfl, rfl⟩
  go_wp2
  refine bodyPost_ret (v := .tuple #[.agg #[.slice (some ⟨w.heap.size + 1, 0, none⟩) n n], .bool true]) (by simp [results, Try.results25, go_sem]) rfl ⟨w.heap.size + 1, n, by omega, rfl, ?_, ?_⟩
  · have := HR.out (w.alloc (.cells #[.slice (some ⟨w.heap.size + 1, 0, none⟩) n n] 25))
    rw [heap_size] at this
    exact this
  · exact ((Below.refl _ _).alloc (Nat.le_refl _) _).alloc (by simp) _
set_option maxHeartbeats 1000000 in
theorem inew_yes (n : Nat) (w : World) (h1 : 1 ≤ n) (h6 : n ≤ 6) :
    Calls Try.prog 24 #[.int .i64 n] w fun e w' => ∃ R c, w.heap.size ≤ R ∧ e = .returned (.tuple #[.agg #[.slice (some ⟨R, 0, none⟩) n c], .bool true]) ∧ ZRow R (List.replicate n zeroZ) w' ∧ Below w.heap.size w w' := by
  have hmk := make_zones n (by omega)
  have hr0 := fun v => ZRow.made v n
  generalize madeCells (Value.agg #[.string ⟨#[]⟩, .int .i64 0, .bool false]).cells (n * 3) = M at *
  have HR : Hid (∀ v : World, ZRow v.heap.size (List.replicate n zeroZ) (v.alloc (.cells M 52))) := hr0
  clear hr0
  have hd : decide ((n : Int) < 1) = false := by simp; omega
  have hd2 : decide ((6 : Int) < (n : Int)) = false := by simp; omega
  go_enter Try.func24, Try.ntmps24
  go_wp2
  refine bodyPost_ret (v := .tuple #[.agg #[.slice (some ⟨w.heap.size + 1, 0, none⟩) n n], .bool true]) (by simp [results, Try.results24, go_sem]) rfl ⟨w.heap.size + 1, n, by omega, rfl, ?_, ?_⟩
  · have := HR.out (w.alloc (.cells #[.slice (some ⟨w.heap.size + 1, 0, none⟩) n n] 25))
    rw [heap_size] at this
    exact this
  · exact ((Below.refl _ _).alloc (Nat.le_refl _) _).alloc (by simp) _
end Go.Proofs.Yteofdaecknlkdaa
