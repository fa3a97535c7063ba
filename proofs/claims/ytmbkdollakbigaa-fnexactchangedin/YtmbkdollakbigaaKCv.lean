/- blocksOver over layersUpTo: the map's keys; the keys of two maps. -/
import Derived.Test.YtmbkdollakbigaaKOvV
import Derived.Test.YtmbkdollakbigaaKReadI
import Derived.Test.YtmbkdollakbigaaKCn
import Derived.Test.YtmbkdollakbigaaKCp
import Derived.Test.YtmbkdollakbigaaKMr
namespace Go.Proofs.Ytmbkdollakbigaa
set_option maxRecDepth 100000
open Go Go.ChangeShapes Go.WideShapes Go.ChangeAt Go.RowKit Go.Shelf
/-- the keys of layers up to a mark -/
def KU (S : List Ly) (m : Int) : Int → Prop := KP S (upT S (up S m))
def TU (S : List Ly) (m : Int) : Int → ByteArray := fun y => atL S y (up S m)
theorem overUK_any (Bm Bx : Nat) (a : Option Addr) (cap : Nat) (S : List Ly) (x : Int) (w : World) (hg : GoodK S) (hf : ∀ k (h : k < S.length), S[k].bl.length ≤ 1048576) (hBm : Bm < w.heap.size) (hBx : Bx < w.heap.size)
    (hcm : w.cell? ⟨Bm, 0, none⟩ = some (.slice a S.length cap)) (hcx : w.cell? ⟨Bx, 0, none⟩ = some (.int .i64 x)) (hG : Ys w.heap.size a S w) :
    Calls Try.prog 24 #[.func (.func 47) #[] #[.pointer (some ⟨Bm, 0, none⟩), .pointer (some ⟨Bx, 0, none⟩)]] w fun e w' => e = .returned (.map (some w.heap.size)) ∧ (∃ (D : DataW Unit) (N : Nat), w'.ownsMap Try.prog 3 keptE w.heap.size N D ∧ N ≤ 16777216 ∧ TellsK D (TU S x) (KU S x)) ∧ Below w.heap.size w w' := by
  obtain ⟨b, off, A, rfl, hA⟩ := hG.pick (by have := hg.1; omega)
  have h8 := hg.2.1
  have hu := up_le S x
  refine ((callsIn_wide (n := 6)).1 (blocksOverK_in (H := Unit) Fence.wide 6 trivial rfl (by omega) 47 _ trivial (enters_of Try.func47 (by kernel_rfl) rfl) S A b off (up S x) w (by omega) hu _
    (fun W0 h0 => upTo_stops Fence.wide 5 trivial rfl (by omega) Bm Bx w.heap.size b off cap S x A W0 (by omega) hBm hBx h0.size ((h0.cell (p := ⟨Bm, 0, none⟩) hBm).trans hcm) ((h0.cell (p := ⟨Bx, 0, none⟩) hBx).trans hcx) (hA.below h0)) hA
    (fun k hk => ⟨hf k hk, (hg.2.2 k hk).2.2.2.2.1, fun j hj => ((hg.2.2 k hk).2.2.2.1 j hj).2⟩))).mono ?_
  rintro e w' ⟨he, ⟨D, N, h1, h2, h3⟩, h4⟩
  exact ⟨he, ⟨D, N, h1, by omega, h3⟩, h4⟩
/-- layers' blocks as one list -/
def bkL (S : List Ly) (m : Int) : List Int := ((upT S (up S m)).map fun k => S[k.1].bl).flatten
theorem ku_mem (S : List Ly) (m x : Int) : x ∈ bkL S m ↔ KU S m x := by
  unfold bkL KU KP
  rw [List.mem_flatten]
  constructor
  · rintro ⟨l, hl, hx⟩
    obtain ⟨k, hk, rfl⟩ := List.mem_map.1 hl
    exact ⟨k, hk, hx⟩
  · rintro ⟨k, hk, hx⟩
    exact ⟨_, List.mem_map.2 ⟨k, hk, rfl⟩, hx⟩
theorem ku_range {S : List Ly} (h : GoodK S) (m x : Int) (hx : KU S m x) : 0 ≤ x ∧ x < 16 := by
  obtain ⟨k, hk, hm⟩ := hx
  obtain ⟨j, hj, rfl⟩ := List.getElem_of_mem hm
  have := ((h.2.2 k.1 k.2).2.2.2.1 j hj).2
  omega
end Go.Proofs.Ytmbkdollakbigaa
