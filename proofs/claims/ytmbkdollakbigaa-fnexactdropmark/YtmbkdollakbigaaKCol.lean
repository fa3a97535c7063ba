/- slices.AppendSeq and slices.Collect over the layers that layersUpTo gives. -/
import Derived.Test.YtmbkdollakbigaaKUp
import Derived.Test.YtmbkdollakbigaaHA
import Derived.RangeFuncBox
namespace Go.Proofs.Ytmbkdollakbigaa
set_option maxRecDepth 100000
open Go Go.ChangeShapes Go.WideShapes Go.ChangeAt Go.RowKit Go.Shelf
attribute [local go_sem] Oper.semAt_some
/-- layers and where their rows lie, by their numbers -/
def colL (S : List Ly) (A : Nat → LA) (pre : List (Fin S.length)) : List (Ly × LA) := pre.map fun k => (S[k.1], A k.1)
theorem colL_snoc (S : List Ly) (A : Nat → LA) (pre : List (Fin S.length)) (k : Fin S.length) : kvals (colL S A (pre ++ [k])) = kvals (colL S A pre) ++ [.int .i64 S[k.1].mark, .slice (A k.1).p S[k.1].bl.length (A k.1).c, .slice (A k.1).q S[k.1].dt.length (A k.1).d] := by
  unfold colL
  rw [List.map_append, List.map_singleton, kvals_snoc]
  rfl
theorem cell_three (w : World) (x y z : Value) (t : TypeId) : ∀ j u, [x, y, z][j]? = some u → (w.alloc (.cells #[x, y, z] t)).cell? ((⟨w.heap.size, 0, none⟩ : Addr).add j) = some u := by
  intro j u hj
  have hadd : (⟨w.heap.size, 0, none⟩ : Addr).add j = ⟨w.heap.size, 0 + j, none⟩ := by unfold Addr.add; split <;> simp_all
  rw [hadd, Nat.zero_add, box_cell (heap_last _ _)]
  simpa using hj
theorem colL_at (S : List Ly) (A : Nat → LA) (N i : Nat) (h : i < (colL S A (upT S N)).length) (hi : i < S.length) : (colL S A (upT S N))[i] = (S[i], A i) := by
  unfold colL upT
  simp
theorem colL_len (S : List Ly) (A : Nat → LA) (N : Nat) (hN : N ≤ S.length) : (colL S A (upT S N)).length = N := by
  unfold colL
  rw [List.length_map, upT_length S N hN]
/-- layers gathered read as the first ones -/
theorem ys_col {lo B b off : Nat} {v : Value} {S : List Ly} {A : Nat → LA} {N : Nat} {w0 w : World} (hN : N ≤ S.length) (h : w.ownsRow lo 64 3 v N (kvals (colL S A (upT S N)))) (hA : YsA B b off A S w0) (hb : Below B w0 w) (hB : B ≤ w.heap.size) : ∃ a c, v = .slice a N c ∧ Ys w.heap.size a (S.take N) w := by
  have hl := colL_len S A N hN
  obtain ⟨L, hL⟩ : ∃ L, L = colL S A (upT S N) := ⟨_, rfl⟩
  have hat : ∀ i (h1 : i < L.length) (h2 : i < S.length), L[i] = (S[i], A i) := fun i h1 h2 => by
    subst hL
    exact colL_at S A N i h1 h2
  rw [← hL] at h hl
  clear hL
  subst hl
  obtain ⟨a, c, rfl⟩ := rw_form h
  refine ⟨a, c, rfl, fun h0 => ?_⟩
  have h0' : 0 < L.length := by simp at h0; omega
  obtain ⟨R, cap, e, hR, hrow⟩ := GRow.ofOwns (rows := L.map kcells) (kwide L) h (by simp) (fun e => by injection e with e1 e2 e3; omega)
  injection e with e1 e2 e3
  subst e1
  refine ⟨R, 0, rfl, hrow.lt, fun i hi => ?_⟩
  have hiL : i < L.length := by simp at hi; omega
  have hiS : i < S.length := by omega
  have k0 := hrow.cell i (by simpa using hiL) 0 (by decide)
  have k1 := hrow.cell i (by simpa using hiL) 1 (by decide)
  have k2 := hrow.cell i (by simpa using hiL) 2 (by decide)
  rw [List.getElem_map, hat i hiL hiS] at k0 k1 k2
  obtain ⟨_, _, _, hI, hS⟩ := hA.2 i hiS
  have et : (S.take L.length)[i] = S[i] := by simp
  rw [et]
  exact ⟨(A i).p, (A i).c, (A i).q, (A i).d, by simpa [kcells] using k0, by simpa [kcells] using k1, by simpa [kcells] using k2, (hI.below hb).mono hB, (hS.below hb).mono hB⟩
end Go.Proofs.Ytmbkdollakbigaa
