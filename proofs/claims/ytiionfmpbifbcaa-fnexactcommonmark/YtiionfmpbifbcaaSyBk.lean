/- slices.Backward over layers: its contract. -/
import Derived.Test.YtiionfmpbifbcaaSyIa
import Derived.Test.YtiionfmpbifbcaaKUp
import Derived.RangeFuncNested
import Derived.RangeFuncBound
import Derived.RangeFuncCalls
import Derived.RangeFuncLeaves
import Derived.RangeFuncBox
import Derived.Shelf.Abstract
import Derived.Shelf.RegionOpen
import Derived.WalkKit
import Derived.OwnWalkIn
import Derived.TacticsInMore
import Derived.LoopNIn
import Derived.LoopIn
namespace Go.Proofs.Ytiionfmpbifbcaa
set_option maxRecDepth 100000
open Go Go.ChangeShapes Go.WideShapes Go.ChangeAt Go.RowKit Go.Shelf
attribute [local go_sem] Oper.semAt_some
/-- the numbers of the last k layers, from the last one back -/
def bkT (S : List Ly) (k : Nat) : List (Fin S.length) := (List.finRange S.length).reverse.take k
theorem bkT_succ (S : List Ly) (k : Nat) (h : k < S.length) : bkT S (k + 1) = bkT S k ++ [⟨S.length - 1 - k, by omega⟩] := by
  unfold bkT
  rw [List.take_succ_eq_append_getElem (by simpa using h)]
  simp
theorem bkT_length (S : List Ly) (k : Nat) (h : k ≤ S.length) : (bkT S k).length = k := by simp [bkT]; omega
theorem lyw_eq (S : List Ly) (A : Nat → LA) (k : Fin S.length) : lyw S A k = .agg #[.int .i64 S[k.1].mark, .slice (A k.1).p S[k.1].bl.length (A k.1).c, .slice (A k.1).q S[k.1].dt.length (A k.1).d] := rfl
set_option maxHeartbeats 4000000 in
theorem back_in (F : Fence) (n : Nat) (h6 : F.fn 77) (hro : F.round = none) (hn : 1 ≤ n) (l Bm n₀ b off cap : Nat) (A : Nat → LA) (S : List Ly) (hlen : S.length ≤ 1048576) (J Jx : List (Fin S.length) → World → Prop)
    (W : World)
    (hY : ∀ pre (k : Fin S.length) W, J pre W → pre.length < S.length → YieldAt F (n - 1) Try.prog l #[.int .i64 (k.1 : Int), lyw S A k] W fun e W' =>
      (e = .returned (.bool true) ∧ J (pre ++ [k]) W' ∧ Below n₀ W W') ∨ (e = .returned (.bool false) ∧ Jx (pre ++ [k]) W'))
    (hBm : Bm < n₀) (hcm : W.cell? ⟨Bm, 0, none⟩ = some (.slice (some ⟨b, off, none⟩) S.length cap)) (hG : YsA n₀ b off A S W) (h0 : J [] W) :
    CallsIn F n Try.prog 77 #[.func (.yield l) #[] #[], .pointer (some ⟨Bm, 0, none⟩)] W fun e W' => (∃ v, e = .returned v) ∧
      ((∃ ys, ys = bkT S S.length ∧ J ys W') ∨ (∃ pre, (∃ k, k ≤ S.length ∧ pre = bkT S k) ∧ Jx pre W')) := by
  have HY := hid hY
  have HG := hid hG
  have HT := hid (bkT_succ S)
  have HTL := hid (bkT_length S)
  have HC := hid hcm
  clear hY hG
  have hw0 : wrap64 ((S.length : Int) - 1) = (S.length : Int) - 1 := by unfold wrap64; omega
  refine callsIn_of_wp Try.func77 rfl h6 ?_ hro
  simp only [Try.ntmps77, List.size_toArray, List.length_cons, List.length_nil, Nat.reduceAdd, Nat.reduceSub, Array.replicate_succ, Array.replicate_zero, List.push_toArray, List.append_toArray, List.nil_append, List.cons_append]
  gi_wp2
  clear hcm
  gi_loopw [3] (fun i wr => ∃ k : Nat, k ≤ S.length ∧ i = .int .i64 ((S.length : Int) - 1 - k) ∧ J (bkT S k) wr ∧ Below n₀ W wr) (fun i _ => (intOf i + 1).toNat)
  case atStart => exact ⟨0, Nat.zero_le _, by simp, by simpa [bkT] using h0, Below.refl _ _⟩
  case round =>
    obtain ⟨k, hk, rfl, hJs, hbel⟩ := hrel
    have HJS := hid hJs
    have HBEL := hid hbel
    clear hJs hw0
    have hx0 : wr.cell? ⟨Bm, 0, none⟩ = some (.slice (some ⟨b, off, none⟩) S.length cap) := (hbel.cell (p := ⟨Bm, 0, none⟩) hBm).trans HC.out
    by_cases hlt : k < S.length
    · obtain ⟨m, hm⟩ : ∃ m, m = S.length - 1 - k := ⟨_, rfl⟩
      have hml : m < S.length := by omega
      have hmi : (S.length : Int) - 1 - k = (m : Int) := by omega
      obtain ⟨c0, c1, c2, -, -⟩ := (HG.out.below hbel).2 m hml
      clear hbel
      have HYk : Hid (YieldAt F (n - 1) Try.prog l #[.int .i64 (m : Int), .agg #[.int .i64 S[m].mark, .slice (A m).p S[m].bl.length (A m).c, .slice (A m).q S[m].dt.length (A m).d]] wr fun e W' => (e = .returned (.bool true) ∧ J (bkT S (k + 1)) W' ∧ Below n₀ wr W') ∨ (e = .returned (.bool false) ∧ Jx (bkT S (k + 1)) W')) := by
        show YieldAt F (n - 1) Try.prog l #[.int .i64 (m : Int), .agg #[.int .i64 S[m].mark, .slice (A m).p S[m].bl.length (A m).c, .slice (A m).q S[m].dt.length (A m).d]] wr fun e W' => (e = .returned (.bool true) ∧ J (bkT S (k + 1)) W' ∧ Below n₀ wr W') ∨ (e = .returned (.bool false) ∧ Jx (bkT S (k + 1)) W')
        have := HY.out (bkT S k) ⟨m, hml⟩ wr HJS.out (by rw [HTL.out k (by omega)]; exact hlt)
        have e := HT.out k hlt
        subst hm
        rw [← e] at this
        exact this
      rw [hmi]
      have hwm : wrap64 ((m : Int) - 1) = (m : Int) - 1 := by unfold wrap64; omega
      have HNX : Hid ((m : Int) - 1 = (S.length : Int) - 1 - ((k + 1 : Nat) : Int)) := by show (m : Int) - 1 = _; omega
      have hge : decide ((0 : Int) ≤ (m : Int)) = true := decide_eq_true (by omega)
      clear hmi hm
      generalize S[m].mark = p0 at *
      generalize S[m].bl.length = p1 at *
      generalize S[m].dt.length = p2 at *
      generalize (A m).p = p3 at *
      generalize (A m).c = p4 at *
      generalize (A m).q = p5 at *
      generalize (A m).d = p6 at *
      obtain ⟨fn, tmps, assign, body, hy, hR⟩ := HYk.out
      clear HYk
      gi_wp2
      refine hR.mono ?_
      rintro e W3 (⟨rfl, hJ3, hk3⟩ | ⟨rfl, hJx3⟩)
      · have HJ3 := hid hJ3
        have HK3 : Hid (Below n₀ W W3) := HBEL.out.trans hk3
        clear hJ3 hk3 hR
        gi_wp2
        go_roundw
        case rel => exact ⟨k + 1, hlt, by rw [HNX.out], HJ3.out, HK3.out⟩
        case measure => simp [intOf]
      · have HJX := hid hJx3
        clear hJx3 hR
        gi_wp2
        refine bodyPost_ret (results_none rfl _ _ _) rfl ?_
        exact ⟨⟨_, rfl⟩, .inr ⟨_, ⟨k + 1, hlt, rfl⟩, HJX.out⟩⟩
    · obtain rfl : k = S.length := by omega
      have hge : decide ((0 : Int) ≤ (S.length : Int) - 1 - (S.length : Int)) = false := decide_eq_false (by omega)
      clear hbel hlt hk
      gi_wp2
      go_end0
      exact ⟨⟨_, rfl⟩, .inl ⟨_, rfl, HJS.out⟩⟩
theorem back_stops (F : Fence) (n : Nat) (h6 : F.fn 77) (hro : F.round = none) (hn : 1 ≤ n) (Bm n₀ b off cap : Nat) (A : Nat → LA) (S : List Ly) (w : World) (hlen : S.length ≤ 1048576) (hBm : Bm < n₀) (hn₀ : n₀ ≤ w.heap.size)
    (hcm : w.cell? ⟨Bm, 0, none⟩ = some (.slice (some ⟨b, off, none⟩) S.length cap)) (hG : YsA n₀ b off A S w) :
    SeqStopsK F n Try.prog 77 #[.pointer (some ⟨Bm, 0, none⟩)] (fun k : Fin S.length => #[Value.int .i64 (k.1 : Int), lyw S A k]) (Below n₀) (fun ys => ys = bkT S S.length) (fun pre => ∃ k, k ≤ S.length ∧ pre = bkT S k) S.length w := fun l J Jx W hW _ _ hY h0 =>
  back_in F n h6 hro hn l Bm n₀ b off cap A S hlen J Jx W hY hBm ((hW.cell (p := ⟨Bm, 0, none⟩) (by show Bm < _; omega)).trans hcm) (hG.below (hW.mono hn₀)) h0
theorem backL_any (a : Option Addr) (cap n : Nat) (w : World) :
    Calls Try.prog 57 #[.slice a n cap] w fun e w' => e = .returned (.func (.func 77) #[] #[.pointer (some ⟨w.heap.size, 0, none⟩)]) ∧ w' = w.alloc (.cells #[.slice a n cap] 28) := by
  go_enter Try.func57, Try.ntmps57
  go_wp2_with fail
  go_ret
  exact ⟨rfl, rfl⟩
end Go.Proofs.Ytiionfmpbifbcaa
