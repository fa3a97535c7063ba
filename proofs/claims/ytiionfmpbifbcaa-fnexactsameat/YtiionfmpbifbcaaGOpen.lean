/- A slice of structs that came in, opened to its cells. -/
import Derived.Test.YtiionfmpbifbcaaGRow
import Derived.ProofKit
import Derived.OpenShut
import Derived.Deep.Slices
import Derived.Deep.Strs
import Derived.SizedLaws
namespace Go.Proofs.Ytiionfmpbifbcaa
open Go Go.ChangeShapes Go.WideShapes Go.ChangeAt Go.RowKit Go.Deep
theorem list_of {α β : Type} {f : α → β} {Q : α → Prop} : ∀ (l : List β), (∀ x ∈ l, ∃ z, x = f z ∧ Q z) → ∃ zs : List α, l = zs.map f ∧ ∀ z ∈ zs, Q z
  | [], _ => ⟨[], rfl, fun _ h => by cases h⟩
  | x :: l, h => by
    obtain ⟨z, hz, qz⟩ := h x (List.mem_cons_self)
    obtain ⟨zs, hzs, qzs⟩ := list_of l (fun y hy => h y (List.mem_cons_of_mem _ hy))
    refine ⟨z :: zs, by rw [List.map_cons, ← hz, ← hzs], fun y hy => ?_⟩
    rcases List.mem_cons.1 hy with rfl | hy
    · exact qz
    · exact qzs y hy
theorem gsl_of {H : Type} {enc : TypeId × Value → H} {P : Program} {W : World} {t e : TypeId} {s fuel : Nat} (ht : P.underlying t = some (.slice e)) (hs : P.cellsOf e = s) (hs0 : 0 < s)
    {a : Option Addr} {len cap : Nat} {y : DataW H × List MemPlace} (h : DataW.trod enc P W 0 (fun _ => true) true fuel t [.slice a len cap] = some y) :
    ∃ rows : List (List Value), rows.length = len ∧ GSl W.heap.size s a rows W ∧ (∀ r ∈ rows, ∃ n x, DataW.trod enc P W 0 (fun _ => true) true n e r = some x) ∧
      len ≤ maxLen := by
  rcases open_slice ht h with ⟨hcs, hx⟩ | ⟨x, l, c, m, n, D, Pl, hcs, _, hl, hm, hmm, hx, hall⟩
  · obtain ⟨rfl, rfl, rfl⟩ : a = none ∧ len = 0 ∧ cap = 0 := by simpa using hcs
    exact ⟨[], rfl, ⟨fun h0 => absurd h0 (by simp)⟩, (fun r hr => absurd hr (by simp)), Nat.zero_le _⟩
  · obtain ⟨rfl, rfl, rfl⟩ : a = some x ∧ len = l ∧ cap = c := by simpa using hcs
    have hmc : m = cap := by simpa using hmm
    rw [hs] at hall
    obtain ⟨f, hf⟩ := @choose_lt (List Value) ⟨[]⟩ m (fun i cs' => W.cells? 0 (x.add (i * s)) s = some cs' ∧ DataW.trod enc P W 0 (fun _ => true) true n e cs' = some (D i, Pl i)) hall
    refine ⟨(List.range len).map f, by simp, ⟨fun h0 => ?_⟩, ?_, by omega⟩
    · have h0' : 0 < len := by simpa using h0
      obtain ⟨_, hl0, hc0⟩ := World.cells?_some (hf 0 (by omega)).1
      have hcell0 := hc0 0 (by omega)
      obtain ⟨b, off, spot⟩ := x
      have hspot : spot = none := by
        have := hcell0
        rw [add_add] at this
        rw [List.getElem?_eq_getElem (by omega)] at this
        simpa [Addr.add] using World.cell?_spot this
      subst hspot
      refine ⟨b, off, rfl, ?_, fun i hi j hj => ?_⟩
      · rw [List.getElem?_eq_getElem (by omega), add_add, add_plain] at hcell0
        exact World.block_lt_of_cell? _ _ hcell0
      · have hi' : i < len := by simpa using hi
        obtain ⟨_, hli, hci⟩ := World.cells?_some (hf i (by omega)).1
        have := hci j hj
        rw [add_add, add_plain] at this
        rw [List.getElem_map, List.getElem_range, Nat.add_assoc]
        exact this
    · intro r hr
      rw [List.mem_map] at hr
      obtain ⟨i, hi, rfl⟩ := hr
      have hi' : i < len := List.mem_range.1 hi
      exact ⟨n, _, (hf i (by omega)).2⟩
end Go.Proofs.Ytiionfmpbifbcaa
