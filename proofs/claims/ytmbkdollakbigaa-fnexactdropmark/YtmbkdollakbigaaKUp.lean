/- The contract of the program's layersUpTo: a function that gives layers. -/
import Derived.Test.YtmbkdollakbigaaKHas
import Derived.Test.YtmbkdollakbigaaHA
import Derived.RangeFuncNested
import Derived.RangeFuncBound
import Derived.RangeFuncCalls
import Derived.RangeFuncLeaves
import Derived.Shelf.Abstract
import Derived.Shelf.RegionOpen
import Derived.WalkKit
import Derived.OwnWalkIn
import Derived.TacticsInMore
import Derived.LoopNIn
import Derived.LoopIn
namespace Go.Proofs.Ytmbkdollakbigaa
set_option maxRecDepth 100000
open Go Go.ChangeShapes Go.WideShapes Go.ChangeAt Go.RowKit Go.Shelf
attribute [local go_sem] Oper.semAt_some
/-- how many layers there are up to a mark -/
def up (S : List Ly) (x : Int) : Nat := S.findIdx (fun y => decide (x < y.mark))
theorem up_le (S : List Ly) (x : Int) : up S x ≤ S.length := List.findIdx_le_length
theorem up_lt {S : List Ly} {x : Int} {k : Nat} (h : k < up S x) (g : k < S.length) : S[k].mark ≤ x := by
  have := List.not_of_lt_findIdx h
  simp at this; exact this
theorem up_at {S : List Ly} {x : Int} (g : up S x < S.length) : x < S[up S x].mark := by
  have := List.findIdx_getElem (w := g)
  simp at this; exact this
/-- the first k layers' numbers -/
def upT (S : List Ly) (k : Nat) : List (Fin S.length) := (List.finRange S.length).take k
theorem upT_succ (S : List Ly) (k : Nat) (h : k < S.length) : upT S (k + 1) = upT S k ++ [⟨k, h⟩] := by
  unfold upT
  rw [List.take_succ_eq_append_getElem (by simpa using h)]
  simp
theorem upT_length (S : List Ly) (k : Nat) (h : k ≤ S.length) : (upT S k).length = k := by simp [upT]; omega
/-- the k-th layer's value -/
def lyw (S : List Ly) (A : Nat → LA) (k : Fin S.length) : Value := .agg #[.int .i64 S[k.1].mark, .slice (A k.1).p S[k.1].bl.length (A k.1).c, .slice (A k.1).q S[k.1].dt.length (A k.1).d]
/-- layers whose values are known -/
def YsA (B b off : Nat) (A : Nat → LA) (S : List Ly) (w : World) : Prop := b < B ∧ ∀ i (hi : i < S.length), w.cell? ⟨b, off + i * 3, none⟩ = some (.int .i64 S[i].mark) ∧ w.cell? ⟨b, off + i * 3 + 1, none⟩ = some (.slice (A i).p S[i].bl.length (A i).c) ∧ w.cell? ⟨b, off + i * 3 + 2, none⟩ = some (.slice (A i).q S[i].dt.length (A i).d) ∧ Is B (A i).p S[i].bl w ∧ Ss B (A i).q S[i].dt w
theorem Ys.pick {B : Nat} {a : Option Addr} {S : List Ly} {w : World} (h : Ys B a S w) (h0 : 0 < S.length) : ∃ b off A, a = some ⟨b, off, none⟩ ∧ YsA B b off A S w := by
  obtain ⟨b, off, e, hb, hc⟩ := h h0
  have hh : ∀ i, ∃ A : LA, ∀ hi : i < S.length, w.cell? ⟨b, off + i * 3, none⟩ = some (.int .i64 S[i].mark) ∧ w.cell? ⟨b, off + i * 3 + 1, none⟩ = some (.slice A.p S[i].bl.length A.c) ∧ w.cell? ⟨b, off + i * 3 + 2, none⟩ = some (.slice A.q S[i].dt.length A.d) ∧ Is B A.p S[i].bl w ∧ Ss B A.q S[i].dt w := fun i => by
    by_cases hi : i < S.length
    · obtain ⟨p, c, q, d, h1, h2, h3, h4, h5⟩ := hc i hi
      exact ⟨⟨p, c, 0, q, d, 0⟩, fun _ => ⟨h1, h2, h3, h4, h5⟩⟩
    · exact ⟨⟨none, 0, 0, none, 0, 0⟩, fun g => absurd g hi⟩
  obtain ⟨A, hA⟩ := Classical.axiomOfChoice hh
  exact ⟨b, off, A, e, hb, fun i hi => hA i hi⟩
theorem YsA.below {B b off : Nat} {A : Nat → LA} {S : List Ly} {w w' : World} (h : YsA B b off A S w) (g : Below B w w') : YsA B b off A S w' := ⟨h.1, fun i hi => by
  obtain ⟨h1, h2, h3, h4, h5⟩ := h.2 i hi
  exact ⟨(g.cell (p := ⟨b, _, none⟩) h.1).trans h1, (g.cell (p := ⟨b, _, none⟩) h.1).trans h2, (g.cell (p := ⟨b, _, none⟩) h.1).trans h3, h4.below g, h5.below g⟩⟩
set_option maxHeartbeats 4000000 in
theorem upTo_in (F : Fence) (n : Nat) (h6 : F.fn 47) (hro : F.round = none) (hn : 1 ≤ n) (l Bm Bx n₀ b off cap : Nat) (S : List Ly) (x : Int) (A : Nat → LA) (hlen : S.length ≤ 1048576) (hBx : Bx < n₀) (J Jx : List (Fin S.length) → World → Prop)
    (W : World) (hn0 : n₀ ≤ W.heap.size) (hJ : AbidesFrom W.heap.size J)
    (hY : ∀ pre k W, J pre W → pre.length < up S x → YieldAt F (n - 1) Try.prog l #[lyw S A k] W fun e W' =>
      (e = .returned (.bool true) ∧ J (pre ++ [k]) W' ∧ Below n₀ W W') ∨ (e = .returned (.bool false) ∧ Jx (pre ++ [k]) W'))
    (hcm : W.cell? ⟨Bm, 0, none⟩ = some (.slice (some ⟨b, off, none⟩) S.length cap)) (hcx : W.cell? ⟨Bx, 0, none⟩ = some (.int .i64 x)) (hG : YsA n₀ b off A S W) (h0 : J [] W) :
    CallsIn F n Try.prog 47 #[.func (.yield l) #[] #[], .pointer (some ⟨Bm, 0, none⟩), .pointer (some ⟨Bx, 0, none⟩)] W fun e W' => (∃ v, e = .returned v) ∧
      ((∃ ys, ys = upT S (up S x) ∧ J ys W') ∨ (∃ pre, (∃ k, k ≤ up S x ∧ pre = upT S k) ∧ Jx pre W')) := by
  have HY := hid hY
  have HJ := hid hJ
  have HG := hid hG
  have HULE := hid (up_le S x)
  have HULT : Hid (∀ k (g : k < S.length), k < up S x → S[k].mark ≤ x) := fun k g h => up_lt h g
  have HUAT : Hid (∀ g : up S x < S.length, x < S[up S x].mark) := fun g => up_at g
  have HT := hid (upT_succ S)
  have HTL := hid (upT_length S)
  have HC := hid hcx
  have HN0 := hid hn0
  clear hY hJ hG hcx hn0
  refine callsIn_of_wp Try.func47 rfl h6 ?_ hro
  simp only [Try.ntmps47, List.size_toArray, List.length_cons, List.length_nil, Nat.reduceAdd, Nat.reduceSub, Array.replicate_succ, Array.replicate_zero, List.push_toArray, List.append_toArray, List.nil_append, List.cons_append]
  gi_wp2
  clear hcm
  gi_loopw [9] (fun i wr => ∃ k : Nat, k ≤ up S x ∧ i = .int .i64 k ∧ J (upT S k) wr ∧ Below n₀ W wr) (fun i _ => S.length - (intOf i).toNat)
  case atStart => exact ⟨0, Nat.zero_le _, rfl, by simpa [upT] using h0, Below.refl _ _⟩
  case round =>
    obtain ⟨k, hk, rfl, hJs, hbel⟩ := hrel
    have HJS := hid hJs
    have HBEL := hid hbel
    have HNR := hid (Nat.le_trans HN0.out hbel.size)
    have hx0 : wr.cell? ⟨Bx, 0, none⟩ = some (.int .i64 x) := (hbel.cell (p := ⟨Bx, 0, none⟩) hBx).trans HC.out
    clear hJs
    by_cases hlt : k < S.length
    · obtain ⟨c0, c1, c2, _, _⟩ := (HG.out.below hbel).2 k hlt
      clear hbel
      have HLW : Hid (lyw S A ⟨k, hlt⟩ = .agg #[.int .i64 S[k].mark, .slice (A k).p S[k].bl.length (A k).c, .slice (A k).q S[k].dt.length (A k).d]) := rfl
      have HUL := hid (HULT.out k hlt)
      have HUA : Hid (k = up S x → x < S[k].mark) := fun e => by subst e; exact HUAT.out hlt
      have HYk : Hid (∀ V, J (upT S k) V → k < up S x → YieldAt F (n - 1) Try.prog l #[.agg #[.int .i64 S[k].mark, .slice (A k).p S[k].bl.length (A k).c, .slice (A k).q S[k].dt.length (A k).d]] V fun e W' => (e = .returned (.bool true) ∧ J (upT S (k + 1)) W' ∧ Below n₀ V W') ∨ (e = .returned (.bool false) ∧ Jx (upT S (k + 1)) W')) := fun V hV hku => by
        have := HY.out (upT S k) ⟨k, hlt⟩ V hV (by rw [HTL.out k (by omega)]; exact hku)
        rw [HLW.out, ← HT.out k hlt] at this
        exact this
      clear HLW
      generalize (A k).p = p at *
      generalize (A k).c = c at *
      generalize (A k).q = q at *
      generalize (A k).d = d at *
      generalize hs : S[k] = s at *
      obtain ⟨m, bl, dt⟩ := s
      simp only at c0 c1 c2 HUL HUA HYk
      have hbx := boxB wr (.cells #[.int .i64 m, .slice p bl.length c, .slice q dt.length d] 64)
      have HB1 : Hid (Below n₀ wr (wr.alloc (.cells #[.int .i64 m, .slice p bl.length c, .slice q dt.length d] 64))) := hbx.mono HNR.out
      have HJ1 : Hid (J (upT S k) (wr.alloc (.cells #[.int .i64 m, .slice p bl.length c, .slice q dt.length d] 64))) := HJ.out _ _ _ none HJS.out (World.grownBy_alloc _ _ _) (fun r e => by cases e)
      have y0 : (wr.alloc (.cells #[.int .i64 m, .slice p bl.length c, .slice q dt.length d] 64)).cell? ⟨wr.heap.size, 0, none⟩ = some (.int .i64 m) := box_cell (heap_last _ _) 0
      have y1 : (wr.alloc (.cells #[.int .i64 m, .slice p bl.length c, .slice q dt.length d] 64)).cell? ⟨wr.heap.size, 1, none⟩ = some (.slice p bl.length c) := box_cell (heap_last _ _) 1
      have y2 : (wr.alloc (.cells #[.int .i64 m, .slice p bl.length c, .slice q dt.length d] 64)).cell? ⟨wr.heap.size, 2, none⟩ = some (.slice q dt.length d) := box_cell (heap_last _ _) 2
      have hx1 : (wr.alloc (.cells #[.int .i64 m, .slice p bl.length c, .slice q dt.length d] 64)).cell? ⟨Bx, 0, none⟩ = some (.int .i64 x) := (HB1.out.cell (p := ⟨Bx, 0, none⟩) hBx).trans hx0
      clear hbx hs
      by_cases hku : k < up S x
      · have dm : decide (x < m) = false := decide_eq_false (by have := HUL.out hku; omega)
        obtain ⟨fn, tmps, assign, body, hy, hR⟩ := HYk.out _ HJ1.out hku
        have HKU := hid hku
        clear HYk HUL HUA hku
        gi_wp2
        refine hR.mono ?_
        rintro e W3 (⟨rfl, hJ3, hk3⟩ | ⟨rfl, hJx3⟩)
        · have HJ3 := hid hJ3
          have HK3 : Hid (Below n₀ W W3) := HBEL.out.trans (HB1.out.trans hk3)
          clear hJ3 hk3 hR
          gi_wp2
          go_roundw
          case rel => exact ⟨k + 1, HKU.out, by simp, HJ3.out, HK3.out⟩
          case measure => simp [intOf]; omega
        · have HJX := hid hJx3
          clear hJx3 hR
          gi_wp2
          refine bodyPost_ret (results_none rfl _ _ _) rfl ?_
          exact ⟨⟨_, rfl⟩, .inr ⟨_, ⟨k + 1, HKU.out, rfl⟩, HJX.out⟩⟩
      · have hke : k = up S x := by omega
        have dm : decide (x < m) = true := decide_eq_true (HUA.out hke)
        have HKE := hid hke
        clear HYk HUL HUA hku hke
        gi_wp2
        refine ⟨fun _ h => (by cases h), ?_⟩
        gi_wp2
        refine bodyPost_ret (results_none rfl _ _ _) rfl ?_
        exact ⟨⟨_, rfl⟩, .inl ⟨_, rfl, by rw [← HKE.out]; exact HJ1.out⟩⟩
    · have HKE : Hid (k = up S x) := by have := HULE.out; show k = _; omega
      clear hbel
      gi_wp2
      go_end0
      exact ⟨⟨_, rfl⟩, .inl ⟨_, rfl, by rw [← HKE.out]; exact HJS.out⟩⟩
theorem upTo_stops (F : Fence) (n : Nat) (h6 : F.fn 47) (hro : F.round = none) (hn : 1 ≤ n) (Bm Bx n₀ b off cap : Nat) (S : List Ly) (x : Int) (A : Nat → LA) (w : World) (hlen : S.length ≤ 1048576) (hBm : Bm < n₀) (hBx : Bx < n₀) (hn₀ : n₀ ≤ w.heap.size)
    (hcm : w.cell? ⟨Bm, 0, none⟩ = some (.slice (some ⟨b, off, none⟩) S.length cap)) (hcx : w.cell? ⟨Bx, 0, none⟩ = some (.int .i64 x)) (hG : YsA n₀ b off A S w) :
    SeqStopsK F n Try.prog 47 #[.pointer (some ⟨Bm, 0, none⟩), .pointer (some ⟨Bx, 0, none⟩)] (fun k : Fin S.length => #[lyw S A k]) (Below n₀) (fun ys => ys = upT S (up S x)) (fun pre => ∃ k, k ≤ up S x ∧ pre = upT S k) (up S x) w := fun l J Jx W hW hJ _ hY h0 =>
  have g := hW.mono hn₀
  upTo_in F n h6 hro hn l Bm Bx n₀ b off cap S x A hlen hBx J Jx W (Nat.le_trans hn₀ hW.size) hJ hY ((g.cell (p := ⟨Bm, 0, none⟩) hBm).trans hcm) ((g.cell (p := ⟨Bx, 0, none⟩) hBx).trans hcx) (hG.below g) h0
end Go.Proofs.Ytmbkdollakbigaa
