/- blocksOver over slices.Values. -/
import Derived.Test.YtmbkdollakbigaaKVal
import Derived.Test.YtmbkdollakbigaaKReadI
namespace Go.Proofs.Ytmbkdollakbigaa
set_option maxRecDepth 100000
open Go Go.ChangeShapes Go.WideShapes Go.ChangeAt Go.RowKit Go.Shelf
theorem values_any (a : Option Addr) (cap n : Nat) (w : World) :
    Calls Try.prog 39 #[.slice a n cap] w fun e w' => e = .returned (.func (.func 57) #[] #[.pointer (some ⟨w.heap.size, 0, none⟩)]) ∧ w' = w.alloc (.cells #[.slice a n cap] 29) := by
  go_enter Try.func39, Try.ntmps39
  go_wp2_with fail
  go_ret
  exact ⟨rfl, rfl⟩
theorem overV_any (Bm : Nat) (a : Option Addr) (cap : Nat) (S : List Ly) (w : World) (h0 : 0 < S.length) (hn : S.length ≤ 1048576) (hL : ∀ k (h : k < S.length), S[k].bl.length ≤ 1048576 ∧ lyOk S[k]) (hBm : Bm < w.heap.size)
    (hcm : w.cell? ⟨Bm, 0, none⟩ = some (.slice a S.length cap)) (hG : Ys w.heap.size a S w) :
    Calls Try.prog 24 #[.func (.func 57) #[] #[.pointer (some ⟨Bm, 0, none⟩)]] w fun e w' => e = .returned (.map (some w.heap.size)) ∧ (∃ (D : DataW Unit) (N : Nat), w'.ownsMap Try.prog 3 keptE w.heap.size N D ∧ Tells7 D (fun y => atL S y S.length)) ∧ Below w.heap.size w w' := by
  obtain ⟨b, off, A, rfl, hA⟩ := hG.pick h0
  exact (callsIn_wide (n := 6)).1 (blocksOver_in Fence.wide 6 trivial rfl (by omega) 57 _ trivial (enters_of Try.func57 (by kernel_rfl) rfl) S A b off S.length w hn (Nat.le_refl _) _
    (fun W0 g0 => values_stops Fence.wide 5 trivial rfl (by omega) Bm w.heap.size b off cap S A W0 hn hBm g0.size ((g0.cell (p := ⟨Bm, 0, none⟩) hBm).trans hcm) (hA.below g0)) hA
    (fun k hk => ⟨(hL k hk).1, (hL k hk).2.2.1, fun j hj => ((hL k hk).2.1 j hj).2⟩))
end Go.Proofs.Ytmbkdollakbigaa
