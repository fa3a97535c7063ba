/- slices.AppendSeq and slices.Collect over the layers that layersUpTo gives. -/
import Derived.Test.YtodjnlepgcfadaaKUp
import Derived.Test.YtodjnlepgcfadaaKGrow
import Derived.RangeFuncBox
namespace Go.Proofs.Ytodjnlepgcfadaa
set_option maxRecDepth 100000
open Go Go.ChangeShapes Go.WideShapes Go.ChangeAt Go.RowKit Go.Shelf
attribute [local go_sem] Oper.semAt_some
/-- layers and where their rows lie, by their numbers -/
def colL (S : List Ly) (A : Nat → LA) (pre : List (Fin S.length)) : List (Ly × LA) := pre.map fun k => (S[k.1], A k.1)
theorem colL_snoc (S : List Ly) (A : Nat → LA) (pre : List (Fin S.length)) (k : Fin S.length) : kvals (colL S A (pre ++ [k])) = kvals (colL S A pre) ++ [.int .i64 S[k.1].mark, .slice (A k.1).p S[k.1].bl.length (A k.1).c, .slice (A k.1).q S[k.1].dt.length (A k.1).d] := by
  unfold colL
  rw [List.map_append, List.map_singleton, kvals_snoc]
  rfl
theorem cell_three (w : World) (x y z : Value) (t : TypeId) : ∀ j u, [x, y, z][j]? = some u → (w.alloc (.cells #[x, y, z] t)).cell? ((⟨w.heap.size, 0, none⟩ : Addr).add j) = some u := by
  intro j u hj
  have hadd : (⟨w.heap.size, 0, none⟩ : Addr).add j = ⟨w.heap.size, 0 + j, none⟩ := by unfold Addr.add; split <;> simp_all
  rw [hadd, Nat.zero_add, box_cell (heap_last _ _)]
  simpa using hj
set_option maxHeartbeats 2000000 in
theorem appSeqL_in (F : Fence) (n : Nat) (h3 : F.fn 33) (hro : F.round = none) (hn : 3 ≤ n) (gf : Nat) (lb : Array Value) (hFg : F.fn gf) (eg : ∀ args w, (callFunc gf args).run Try.prog w = .ok (.enter gf args) w)
    (S : List Ly) (A : Nat → LA) (N : Nat) (hN : N ≤ S.length) (Sp : List (Fin S.length) → Prop) (w : World) (hlen : S.length ≤ 9000)
    (hseq : ∀ W0, Below w.heap.size w W0 → SeqStopsK F (n - 1) Try.prog gf lb (fun k : Fin S.length => #[lyw S A k]) (Below w.heap.size) (fun ys => ys = upT S N) Sp N W0) :
    CallsIn F n Try.prog 33 #[.slice none 0 0, .func (.func gf) #[] lb] w fun e W' => ∃ v, e = .returned v ∧ W'.ownsRow w.heap.size 41 3 v N (kvals (colL S A (upT S N))) ∧ Below w.heap.size w W' := by
  have h1 : 1 ≤ n := by omega
  obtain ⟨i0, hi, hz0, hz1, hz2⟩ := info_parts infoLy
  have HUT := hid (upT_length S N hN)
  refine callsIn_of_wp_marks Try.func33 rfl h3 ?_ hro
  simp only [Try.ntmps33, List.size_toArray, List.length_cons, List.length_nil, Nat.reduceAdd, Nat.reduceSub, Array.replicate_succ, Array.replicate_zero, List.push_toArray, List.append_toArray, List.nil_append, List.cons_append]
  gi_wp2
  have bO := Boxed.new w 26 (.slice none 0 0)
  have hB0 : Below w.heap.size w (w.alloc (.cells #[.slice none 0 0] 26)) := (Below.refl _ w).alloc (Nat.le_refl _) _
  refine wpIn_rangeFunc_ownH hro h1 (gf := gf) (lb := lb) rfl hFg eg (hseq _ hB0) belowK_t (belowK_b (by simp)) (Below.refl _ _) (fun _ => rfl)
    (fun pre W => (∃ v, Boxed W w.heap.size 26 v ∧ W.ownsRow w.heap.size 41 3 v pre.length (kvals (colL S A pre)) ∧ True) ∧ Below w.heap.size w W)
    (fun _ _ _ => False)
    (OwnFrom.and (Own.from (holdsRow_own w.heap.size w.heap.size 26 41 3 (fun pre : List (Fin S.length) => pre.length) (fun pre : List (Fin S.length) => kvals (colL S A pre)) (fun _ _ => True)) _) (ownFrom_below (Nat.le_refl _) (by simp)))
    (fun _ _ _ _ _ hs _ _ => hs)
    ⟨⟨_, bO, World.ownsRow_nil _ _ _ _, trivial⟩, hB0⟩
    (fun k a' W => ∃ Bx, w.heap.size < Bx ∧ W.heap[Bx]? = some (.cells #[.int .i64 S[k.1].mark, .slice (A k.1).p S[k.1].bl.length (A k.1).c, .slice (A k.1).q S[k.1].dt.length (A k.1).d] 41 (0, 0)) ∧ a' = { tmps := #[.slice none 0 0, .func (.func gf) #[] lb, .pointer (some ⟨w.heap.size, 0, none⟩), undef, .slice none 0 0, .pointer (some ⟨Bx, 0, none⟩), .func (.func gf) #[] lb, lyw S A k, undef, undef, undef, undef, undef], defers := [] })
    ?hAx ?assign ?body ?done ?stop
  case hAx =>
    intro x a' _ X Y row hs hg hr
    obtain ⟨Bx, h1, h2, h3⟩ := hs
    have hlt : Bx < X.heap.size := (Array.getElem?_eq_some_iff.1 h2).1
    exact ⟨Bx, h1, (hg.block Bx hlt (fun e => by obtain ⟨o, g1, g2⟩ := (hr _ e.symm).2; rw [h2] at g1; cases g1; cases g2)).trans h2, h3⟩
  case assign =>
    rintro l pre x W K ⟨⟨v, hv, hrow, _⟩, hB1⟩ hK
    have hlw : lyw S A x = .agg #[.int .i64 S[x.1].mark, .slice (A x.1).p S[x.1].bl.length (A x.1).c, .slice (A x.1).q S[x.1].dt.length (A x.1).d] := rfl
    rw [hlw]
    gi_wp2
    exact hK _ _ ((KeepsOthers.alloc _ _).from _) ((Below.refl _ W).alloc hB1.size _) ⟨⟨v, hv.alloc _, hrow.alloc _, trivial⟩, hB1.alloc hB1.size _⟩ ⟨W.heap.size, hv.lt, World.alloc_heap_new W _, rfl⟩
  case body =>
    rintro l pre x a' W hl _ ⟨⟨v, hv, hrow, _⟩, hB⟩ ⟨Bx, hBx, hX, rfl⟩ hlt
    have hsn := colL_snoc S A pre x
    have hlw : lyw S A x = .agg #[.int .i64 S[x.1].mark, .slice (A x.1).p S[x.1].bl.length (A x.1).c, .slice (A x.1).q S[x.1].dt.length (A x.1).d] := rfl
    rw [hlw]
    clear hlw
    have HSN := hid hsn
    have HPL : Hid ((pre ++ [x]).length = pre.length + 1) := by simp [Hid]
    have hpl : pre.length < 9000 := by omega
    generalize (A x.1).p = p at *
    generalize (A x.1).c = c at *
    generalize (A x.1).q = q at *
    generalize (A x.1).d = d at *
    generalize S[x.1] = s at *
    obtain ⟨mk, bl, dt⟩ := s
    simp only at HSN hX
    have hc := hv.cell
    have y0 : W.cell? ⟨Bx, 0, none⟩ = some (.int .i64 mk) := box_cell hX 0
    have y1 : W.cell? ⟨Bx, 1, none⟩ = some (.slice p bl.length c) := box_cell hX 1
    have y2 : W.cell? ⟨Bx, 2, none⟩ = some (.slice q dt.length d) := box_cell hX 2
    clear hsn hX
    gi_wp2_with (gi_at_builtin; refine wpListIn_append_own _ rfl _ _ 26 rfl w.heap.size 41 i0 _ 3 56 Try.underlying26 hi hz0 hz1 hz2 rfl (by decide) _ _ _ rfl (hrow.alloc _) ⟨W.heap.size, 0, none⟩ 1 1 [.int .i64 mk, .slice p bl.length c, .slice q dt.length d] rfl rfl (cell_three _ _ _ _ _) (by simp [Value.oneCell']) (by unfold maxLen; omega) (by omega) (by have := hB.size; simp; omega) ?_; intro v' w1 hown' hgrow _; obtain ⟨g', cap', rfl⟩ := ownsRow_succ hown'; obtain ⟨hv1, hv2, hr2, hk2, hb2⟩ := hv.appended (by decide) hrow hB.size (Nat.le_refl _) hown' hgrow; have hc1 := hv1.cell; have hf1 := hv1.frozen)
    have hr3 : (w1.setCell ⟨w.heap.size, 0, none⟩ (.slice (some ⟨g', 0, none⟩) (pre.length + 1) cap')).ownsRow w.heap.size 41 3 (.slice (some ⟨g', 0, none⟩) (pre.length + 1) cap') (pre ++ [x]).length (kvals (colL S A (pre ++ [x]))) := by
      rw [HPL.out, HSN.out]
      exact hr2
    first
      | exact ⟨hk2.from _, hb2, ⟨_, hv2, hr3, trivial⟩, hB.trans hb2⟩
      | exact ⟨hk2.from _, hb2, ⟨_, hv2, hr3⟩, hB.trans hb2⟩
  case done =>
    rintro D ys W hD rfl ⟨⟨v, hv, hrow, _⟩, hB⟩ hK
    have hc := hv.cell
    rw [HUT.out] at hrow
    gi_wp2
    refine ⟨by simp, .inl ⟨_, _, rfl, run_takeDeferred hK, ?_⟩⟩
    exact ⟨_, results_tmp rfl _ _ _, v, rfl, ownsRow_putObj hrow _ hK rfl, hB.trans (belowK_b (w := w) (Nat.le_refl _) W D _ _ (by simp at hD; omega) hK rfl rfl)⟩
  case stop =>
    rintro D c pre W _ _ h _
    exact h.elim
theorem colL_at (S : List Ly) (A : Nat → LA) (N i : Nat) (h : i < (colL S A (upT S N)).length) (hi : i < S.length) : (colL S A (upT S N))[i] = (S[i], A i) := by
  unfold colL upT
  simp
theorem colL_len (S : List Ly) (A : Nat → LA) (N : Nat) (hN : N ≤ S.length) : (colL S A (upT S N)).length = N := by
  unfold colL
  rw [List.length_map, upT_length S N hN]
/-- layers gathered read as the first ones -/
theorem ys_col {lo B b off : Nat} {v : Value} {S : List Ly} {A : Nat → LA} {N : Nat} {w0 w : World} (hN : N ≤ S.length) (h : w.ownsRow lo 41 3 v N (kvals (colL S A (upT S N)))) (hA : YsA B b off A S w0) (hb : Below B w0 w) (hB : B ≤ w.heap.size) : ∃ a c, v = .slice a N c ∧ Ys w.heap.size a (S.take N) w := by
  have hl := colL_len S A N hN
  obtain ⟨L, hL⟩ : ∃ L, L = colL S A (upT S N) := ⟨_, rfl⟩
  have hat : ∀ i (h1 : i < L.length) (h2 : i < S.length), L[i] = (S[i], A i) := fun i h1 h2 => by
    subst hL
    exact colL_at S A N i h1 h2
  rw [← hL] at h hl
  clear hL
  subst hl
  obtain ⟨a, c, rfl⟩ := rw_form h
  refine ⟨a, c, rfl, fun h0 => ?_⟩
  have h0' : 0 < L.length := by simp at h0; omega
  obtain ⟨R, cap, e, hR, hrow⟩ := GRow.ofOwns (rows := L.map kcells) (kwide L) h (by simp) (fun e => by injection e with e1 e2 e3; omega)
  injection e with e1 e2 e3
  subst e1
  refine ⟨R, 0, rfl, hrow.lt, fun i hi => ?_⟩
  have hiL : i < L.length := by simp at hi; omega
  have hiS : i < S.length := by omega
  have k0 := hrow.cell i (by simpa using hiL) 0 (by decide)
  have k1 := hrow.cell i (by simpa using hiL) 1 (by decide)
  have k2 := hrow.cell i (by simpa using hiL) 2 (by decide)
  rw [List.getElem_map, hat i hiL hiS] at k0 k1 k2
  obtain ⟨_, _, _, hI, hS⟩ := hA.2 i hiS
  have et : (S.take L.length)[i] = S[i] := by simp
  rw [et]
  exact ⟨(A i).p, (A i).c, (A i).q, (A i).d, by simpa [kcells] using k0, by simpa [kcells] using k1, by simpa [kcells] using k2, (hI.below hb).mono hB, (hS.below hb).mono hB⟩
set_option maxHeartbeats 400000 in
theorem collectL_any (Bm Bx : Nat) (a : Option Addr) (cap : Nat) (S : List Ly) (x : Int) (w : World) (hn : S.length ≤ 9000) (h0 : 0 < S.length) (hBm : Bm < w.heap.size) (hBx : Bx < w.heap.size) (hcm : w.cell? ⟨Bm, 0, none⟩ = some (.slice a S.length cap)) (hcx : w.cell? ⟨Bx, 0, none⟩ = some (.int .i64 x)) (hG : Ys w.heap.size a S w) :
    Calls Try.prog 19 #[.func (.func 34) #[] #[.pointer (some ⟨Bm, 0, none⟩), .pointer (some ⟨Bx, 0, none⟩)]] w fun e w' => ∃ b c, e = .returned (.slice b (up S x) c) ∧ Ys w'.heap.size b (S.take (up S x)) w' ∧ Below w.heap.size w w' := by
  obtain ⟨b, off, A, rfl, hA⟩ := hG.pick h0
  have H := hid ((callsIn_wide (n := 6)).1 (appSeqL_in Fence.wide 6 trivial rfl (by omega) 34 _ trivial (enters_of Try.func34 (by kernel_rfl) rfl) S A (up S x) (up_le S x) _ w hn
    (fun W0 g0 => upTo_stops Fence.wide 5 trivial rfl (by omega) Bm Bx w.heap.size b off cap S x A W0 (by omega) hBm hBx g0.size ((g0.cell (p := ⟨Bm, 0, none⟩) hBm).trans hcm) ((g0.cell (p := ⟨Bx, 0, none⟩) hBx).trans hcx) (hA.below g0))))
  have HA := hid hA
  have HUL := hid (up_le S x)
  clear hcm hcx hG hBm hBx hA
  go_enter Try.func19, Try.ntmps19
  go_wp2_with fail
  refine H.out.mono ?_
  rintro e w1 ⟨v, rfl, o1, b1⟩
  have HO := hid (ys_col HUL.out o1 HA.out b1 b1.size)
  have HB := hid b1
  clear o1 b1 H
  go_wp2
  go_ret
  obtain ⟨a9, c9, e9, hY⟩ := HO.out
  exact ⟨a9, c9, congrArg Ending.returned e9, hY, HB.out⟩
end Go.Proofs.Ytodjnlepgcfadaa
