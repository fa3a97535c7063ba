/- Notes appended to a list of one's own: the row as it was keeps its notes. -/
import Derived.Test.YtgompioaknfjgaaUwN
namespace Go.Proofs.Ytgompioaknfjgaa
set_option maxRecDepth 100000
open Go Go.ChangeShapes Go.WideShapes Go.ChangeAt Go.RowKit
/-- the first notes of a row that is read -/
theorem nts_pre {B g : Nat} {l m : List Nt} {w : World} (h : Nts B (some ⟨g, 0, none⟩) (l ++ m) w) : Nts B (some ⟨g, 0, none⟩) l w := by
  refine ⟨fun h0 => ?_⟩
  have h0' : 0 < ((l ++ m).map ntc).length := by simp at h0 ⊢; omega
  obtain ⟨b, off, e, hb, hc⟩ := GSl.cell h h0'
  refine ⟨b, off, e, hb, fun i hi j hj => ?_⟩
  have hi' : i < l.length := by simpa using hi
  rw [hc i (by simp; omega) j hj, List.getElem_map, List.getElem_map, List.getElem_append_left hi']
theorem AN.is {lo g c : Nat} {l : List Nt} {w : World} (h : AN lo (.slice (some ⟨g, 0, none⟩) l.length c) l w) : Nts w.heap.size (some ⟨g, 0, none⟩) l w := by
  by_cases h0 : 0 < l.length
  · obtain ⟨R, c', e, hR, hrow, -⟩ := h.row h0
    injection e with e1 _ _
    rw [e1]
    exact hrow.sl hrow.lt
  · obtain rfl : l = [] := List.eq_nil_of_length_eq_zero (by omega)
    exact ⟨fun h9 => absurd h9 (by simp)⟩
theorem AN.push_old {lo g cap : Nat} {L : List Nt} {w : World} (h : AN lo (.slice (some ⟨g, 0, none⟩) L.length cap) L w) (n : Nt) (hm : L.length + 1 ≤ 10000) {v' : Value} {w' : World}
    (hrun : ∀ ty, (Builtin.append_ #[23, 23] ty #[.slice (some ⟨g, 0, none⟩) L.length cap, .slice (some ⟨w.heap.size, 0, none⟩) 1 1]).run Try.prog (w.alloc (.cells #[.int .i64 n.kd, .int .i64 n.wh, .int .i64 n.cl, .int .i64 n.ws, .int .i64 n.is] 67)) = .ok v' w')
    (hown : AN lo v' (L ++ [n]) w') : Nts w'.heap.size (some ⟨g, 0, none⟩) L w' := by
  obtain ⟨i0, hi, hz0, hz1, hz2⟩ := info_parts infoNt
  have hb := boxB w (.cells #[.int .i64 n.kd, .int .i64 n.wh, .int .i64 n.cl, .int .i64 n.ws, .int .i64 n.is] 67)
  have h1 := h.below hb
  have hL := heap_last w (.cells #[.int .i64 n.kd, .int .i64 n.wh, .int .i64 n.cl, .int .i64 n.ws, .int .i64 n.is] 67)
  have hnews : ∀ j u, (ntc n)[j]? = some u → (w.alloc (.cells #[.int .i64 n.kd, .int .i64 n.wh, .int .i64 n.cl, .int .i64 n.ws, .int .i64 n.is] 67)).cell? ((⟨w.heap.size, 0, none⟩ : Addr).add j) = some u := fun j u hu => by
    have hadd : (⟨w.heap.size, 0, none⟩ : Addr).add j = ⟨w.heap.size, j, none⟩ := by unfold Addr.add; split <;> simp_all
    rw [hadd, box_cell hL j]
    unfold ntc at hu
    simpa using hu
  have hone : ∀ u ∈ ntc n, u.oneCell' = true := fun u hu => nvals_one [n] u (by simpa [nvals] using hu)
  generalize w.alloc (.cells #[.int .i64 n.kd, .int .i64 n.wh, .int .i64 n.cl, .int .i64 n.ws, .int .i64 n.is] 67) = W at *
  have h9 : W.ownsRow lo 67 5 (.slice (some ⟨g, 0, none⟩) L.length cap) L.length (nvals L) := h1
  obtain ⟨hl, ⟨e, _⟩ | ⟨g', cap', cur, e, q1, hg, q2, q3, q4, q5⟩⟩ := h9
  · cases e
  injection e with e1 e2 e3
  injection e1 with e1
  injection e1 with e1 _ _
  subst e1; subst e3
  by_cases hroom : L.length + 1 ≤ cap
  · have hr := run_append_room (P := Try.prog) W 23 23 67 i0 Try.underlying23 hi g L.length cap cur hg ⟨w.heap.size, 0, none⟩ 1 1 (ntc n) (by rw [hz1]; rfl) hnews hone hroom (by rw [hz1]; show L.length * 5 + 5 ≤ cur.size; omega)
    rw [hrun] at hr
    injection hr with hv hw
    have hown2 : AN lo (.slice (some ⟨g, 0, none⟩) (L ++ [n]).length cap) (L ++ [n]) w' := by rw [List.length_append, List.length_singleton, ← hv]; exact hown
    exact nts_pre hown2.is
  · have hr := run_append_grow (P := Try.prog) W 23 23 67 i0 _ Try.underlying23 hi hz0 ⟨g, 0, none⟩ L.length cap (nvals L) (by rw [hz1, nvals_len]) (fun j u hu => by
      have hadd : (⟨g, 0, none⟩ : Addr).add j = ⟨g, j, none⟩ := by unfold Addr.add; split <;> simp_all
      rw [hadd, box_cell hg j]
      rw [← q5, List.getElem?_take] at hu
      split at hu
      · simpa using hu
      · cases hu) ⟨w.heap.size, 0, none⟩ 1 1 (ntc n) (by rw [hz1]; rfl) hnews (by omega) (by omega) (growslice_fits (by omega) (by rw [hz2]; omega))
    rw [hrun] at hr
    injection hr with hv hw
    have hlt := kbox hg
    have hk : w'.heap[g]? = W.heap[g]? := by rw [hw]; exact Below.heap_alloc _ _ _ hlt
    have h2 : AN lo (.slice (some ⟨g, 0, none⟩) L.length cap) L w' := rw_keep h1 (fun k hk2 => by
      have e : some g = some k := hk2
      injection e with e
      subst e
      exact hk)
    exact h2.is
end Go.Proofs.Ytgompioaknfjgaa
