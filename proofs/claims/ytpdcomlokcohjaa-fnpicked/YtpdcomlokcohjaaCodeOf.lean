/- A slice of bytes that came in, as the cursor's code. -/
import Derived.Test.YtpdcomlokcohjaaHA
import Derived.ProofKit
import Derived.OpenShut
import Derived.SizedLaws
namespace Go.Proofs.Ytpdcomlokcohjaa
open Go Go.ChangeShapes Go.WideShapes Go.ChangeAt Go.RowKit
theorem code_of {H : Type} {enc : TypeId × Value → H} {P : Program} {t : TypeId} (ht : P.underlying t = some (.slice 5)) (he : P.underlying 5 = some (.int .u8)) (hc : P.cellsOf 5 = 1)
    {W : World} {a : Option Addr} {len cap : Nat} {d : DataW H} {p : List MemPlace} (h : DataW.Trod enc P W 0 (fun _ => true) true t (.slice a len cap) d p) :
    (len = 0 ∨ ∃ zs : List Int, zs.length = cap ∧ len ≤ cap ∧ d = .slice (lits .u8 (zs.take len)) (lits .u8 (zs.drop len))) ∧ (len ≤ 1048576 → Code W.heap.size len cap a W) := by
  obtain ⟨fuel, hf⟩ := h
  rcases open_ints ht he hc hf with ⟨hcs, hx⟩ | ⟨x, l, c, zs, hcs, _, hl, hm, hz, hx, hcell, hwz⟩
  · simp [Value.cells] at hcs
    obtain ⟨rfl, rfl, rfl⟩ := hcs
    exact ⟨Or.inl rfl, fun _ => ⟨by omega, fun h0 => absurd h0 (Nat.lt_irrefl _)⟩⟩
  · simp [Value.cells] at hcs
    obtain ⟨rfl, rfl, rfl⟩ := hcs
    have hz' : zs.length = cap := by simpa using hz
    have hd : d = .slice (lits .u8 (zs.take len)) (lits .u8 (zs.drop len)) := congrArg Prod.fst hx
    refine ⟨Or.inr ⟨zs, hz', hl, hd⟩, fun hs => ⟨hs, fun h0 => ?_⟩⟩
    obtain ⟨b, off, rfl, hc2⟩ := ints_at hcell (by omega)
    refine ⟨b, off, rfl, World.block_lt_of_cell? _ _ (hc2 0 (by omega)), fun i hi => ?_⟩
    have hm2 : zs.getD i 0 ∈ zs := by
      rw [List.getD_eq_getElem?_getD, List.getElem?_eq_getElem (by omega)]
      exact List.getElem_mem _
    have hb := bounds_u8 (hwz _ hm2)
    exact ⟨zs.getD i 0, by omega, by omega, hc2 i (by omega)⟩
theorem code_len {H : Type} {P : Program} {ts : List TypeId} {ds : List (DataW H)} (h : (DataW.weightsEach P ts ds).all (· ≤ reachBytes) = true) {j : Nat} {t : TypeId} {len cap : Nat} {zs : List Int}
    (hz : zs.length = cap) (hl : len ≤ cap) (ht : ts[j]? = some t) (hd : ds[j]? = some (.slice (lits .u8 (zs.take len)) (lits .u8 (zs.drop len)))) (hu : P.underlying t = some (.slice 5)) (hb : P.bytesOf 5 = 1) : len ≤ 4611686018427387903 := by
  have := sized_slice h ht hd hu
  have hr := reachBytes_lt
  rw [hb] at this
  simp [lits] at this
  omega
end Go.Proofs.Ytpdcomlokcohjaa
