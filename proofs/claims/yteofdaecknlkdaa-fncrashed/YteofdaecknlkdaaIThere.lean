/- Walks of the program's hasZone. -/
import Derived.Test.YteofdaecknlkdaaThere
import Derived.Test.YteofdaecknlkdaaIGood
import Derived.Test.YteofdaecknlkdaaICopy
namespace Go.Proofs.Yteofdaecknlkdaa
set_option maxRecDepth 100000
open Go.ChangeShapes Go.WideShapes Go.ChangeAt Go.RowKit
set_option maxHeartbeats 400000 in
theorem has_yes (a : Option Addr) (cap : Nat) (zs : List Zn) (k : Int) (w : World) (hn : zs.length ≤ 1048576) (hZ : Zs w.heap.size a zs w) (h : there zs k) :
    Calls Try.prog 35 #[.agg #[.slice a zs.length cap], .int .i64 k] w fun e w' => e = .returned (.bool true) ∧ Below w.heap.size w w' := by
  have HZ : Hid (∀ o, Zs (w.alloc o).heap.size a zs (w.alloc o)) := fun o => (hZ.below ((Below.refl _ _).alloc (Nat.le_refl _) _)).mono (by simp)
  have HG : Hid (goodD zs = true) := h.1
  have h0 := h.2.1
  have h1 := h.2.2
  clear hZ h
  go_enter Try.func35, Try.ntmps35
  go_wp2_with fail
  refine (igood_any a cap zs _ hn (HZ.out _)).mono ?_
  rintro e w1 ⟨rfl, b1⟩
  rw [HG.out]
  have hc : w1.cell? ⟨w.heap.size, 0, none⟩ = some (.slice a zs.length cap) := by
    rw [b1.cell (p := ⟨w.heap.size, 0, none⟩) (by simp)]; go_simp
  have HB : Hid (Below w.heap.size w w1) := ((Below.refl _ _).alloc (Nat.le_refl _) _).trans (b1.mono (by simp))
  clear b1
  go_wp2
  go_ret
  exact ⟨rfl, HB.out⟩
set_option maxHeartbeats 400000 in
theorem has_no (a : Option Addr) (cap : Nat) (zs : List Zn) (k : Int) (w : World) (hn : zs.length ≤ 1048576) (hZ : Zs w.heap.size a zs w) (h : ¬ there zs k) :
    Calls Try.prog 35 #[.agg #[.slice a zs.length cap], .int .i64 k] w fun e w' => e = .returned (.bool false) ∧ Below w.heap.size w w' := by
  have HZ : Hid (∀ o, Zs (w.alloc o).heap.size a zs (w.alloc o)) := fun o => (hZ.below ((Below.refl _ _).alloc (Nat.le_refl _) _)).mono (by simp)
  have HH : Hid (¬ there zs k) := h
  clear hZ h
  go_enter Try.func35, Try.ntmps35
  go_wp2_with fail
  refine (igood_any a cap zs _ hn (HZ.out _)).mono ?_
  rintro e w1 ⟨rfl, b1⟩
  have hc : w1.cell? ⟨w.heap.size, 0, none⟩ = some (.slice a zs.length cap) := by
    rw [b1.cell (p := ⟨w.heap.size, 0, none⟩) (by simp)]; go_simp
  have HB : Hid (Below w.heap.size w w1) := ((Below.refl _ _).alloc (Nat.le_refl _) _).trans (b1.mono (by simp))
  clear b1
  cases hg : goodD zs
  · go_wp2
    go_ret
    exact ⟨rfl, HB.out⟩
  · by_cases h0 : 0 ≤ k
    · have h1 : ¬ k < zs.length := fun h1 => HH.out ⟨hg, h0, h1⟩
      have hd : decide (k < (zs.length : Int)) = false := by simpa using h1
      clear hg
      go_wp2
      go_ret
      exact ⟨rfl, HB.out⟩
    · have hd : decide (0 ≤ k) = false := by simpa using h0
      clear hg
      go_wp2
      go_ret
      exact ⟨rfl, HB.out⟩
end Go.Proofs.Yteofdaecknlkdaa
