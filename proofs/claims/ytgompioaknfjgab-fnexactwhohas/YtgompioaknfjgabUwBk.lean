/- slices.Backward over notes: its contract; the program's openFrom. -/
import Derived.Test.YtgompioaknfjgabUwB
import Derived.RangeFuncNested
import Derived.RangeFuncBound
import Derived.RangeFuncCalls
import Derived.RangeFuncLeaves
import Derived.RangeFuncBox
import Derived.Shelf.Abstract
import Derived.Shelf.RegionOpen
import Derived.WalkKit
import Derived.OwnWalkIn
import Derived.TacticsInMore
import Derived.LoopNIn
import Derived.LoopIn
namespace Go.Proofs.Ytgompioaknfjgab
set_option maxRecDepth 100000
open Go Go.ChangeShapes Go.WideShapes Go.ChangeAt Go.RowKit Go.Shelf
attribute [local go_sem] Oper.semAt_some
/-- the numbers of the last k notes, from the last one back -/
def bkT (S : List Nt) (k : Nat) : List (Fin S.length) := (List.finRange S.length).reverse.take k
theorem bkT_succ (S : List Nt) (k : Nat) (h : k < S.length) : bkT S (k + 1) = bkT S k ++ [⟨S.length - 1 - k, by omega⟩] := by
  unfold bkT
  rw [List.take_succ_eq_append_getElem (by simpa using h)]
  simp
theorem bkT_length (S : List Nt) (k : Nat) (h : k ≤ S.length) : (bkT S k).length = k := by simp [bkT]; omega
def nv (S : List Nt) (k : Fin S.length) : Value := .agg #[.int .i64 S[k.1].kd, .int .i64 S[k.1].wh, .int .i64 S[k.1].cl, .int .i64 S[k.1].ws, .int .i64 S[k.1].is]
set_option maxHeartbeats 4000000 in
theorem back_in (F : Fence) (n : Nat) (h6 : F.fn 42) (hro : F.round = none) (hn : 1 ≤ n) (l Bm n₀ cap : Nat) (a : Option Addr) (S : List Nt) (hlen : S.length ≤ 1048576) (J Jx : List (Fin S.length) → World → Prop)
    (W : World)
    (hY : ∀ pre (k : Fin S.length) W, J pre W → pre.length < S.length → YieldAt F (n - 1) Try.prog l #[.int .i64 (k.1 : Int), nv S k] W fun e W' =>
      (e = .returned (.bool true) ∧ J (pre ++ [k]) W' ∧ Below n₀ W W') ∨ (e = .returned (.bool false) ∧ Jx (pre ++ [k]) W'))
    (hBm : Bm < n₀) (hcm : W.cell? ⟨Bm, 0, none⟩ = some (.slice a S.length cap)) (hG : Nts n₀ a S W) (h0 : J [] W) :
    CallsIn F n Try.prog 42 #[.func (.yield l) #[] #[], .pointer (some ⟨Bm, 0, none⟩)] W fun e W' => (∃ v, e = .returned v) ∧
      ((∃ ys, ys = bkT S S.length ∧ J ys W') ∨ (∃ pre, (∃ k, k ≤ S.length ∧ pre = bkT S k) ∧ Jx pre W')) := by
  have HY := hid hY
  have HG := hid hG
  have HT := hid (bkT_succ S)
  have HTL := hid (bkT_length S)
  have HC := hid hcm
  clear hY hG
  have hw0 : wrap64 ((S.length : Int) - 1) = (S.length : Int) - 1 := by unfold wrap64; omega
  refine callsIn_of_wp Try.func42 rfl h6 ?_ hro
  simp only [Try.ntmps42, List.size_toArray, List.length_cons, List.length_nil, Nat.reduceAdd, Nat.reduceSub, Array.replicate_succ, Array.replicate_zero, List.push_toArray, List.append_toArray, List.nil_append, List.cons_append]
  gi_wp2
  clear hcm
  gi_loopw [3] (fun i wr => ∃ k : Nat, k ≤ S.length ∧ i = .int .i64 ((S.length : Int) - 1 - k) ∧ J (bkT S k) wr ∧ Below n₀ W wr) (fun i _ => (intOf i + 1).toNat)
  case atStart => exact ⟨0, Nat.zero_le _, by simp, by simpa [bkT] using h0, Below.refl _ _⟩
  case round =>
    obtain ⟨k, hk, rfl, hJs, hbel⟩ := hrel
    have HJS := hid hJs
    have HBEL := hid hbel
    clear hJs hw0
    have hx0 : wr.cell? ⟨Bm, 0, none⟩ = some (.slice a S.length cap) := (hbel.cell (p := ⟨Bm, 0, none⟩) hBm).trans HC.out
    by_cases hlt : k < S.length
    · obtain ⟨m, hm⟩ : ∃ m, m = S.length - 1 - k := ⟨_, rfl⟩
      have hml : m < S.length := by omega
      have hmi : (S.length : Int) - 1 - k = (m : Int) := by omega
      obtain ⟨b, off, rfl, hb, hc⟩ := (HG.out.below hbel).cell (by omega)
      obtain ⟨c0, c1, c2, c3, c4⟩ := hc m hml
      clear hbel hc
      have HYk : Hid (YieldAt F (n - 1) Try.prog l #[.int .i64 (m : Int), .agg #[.int .i64 S[m].kd, .int .i64 S[m].wh, .int .i64 S[m].cl, .int .i64 S[m].ws, .int .i64 S[m].is]] wr fun e W' => (e = .returned (.bool true) ∧ J (bkT S (k + 1)) W' ∧ Below n₀ wr W') ∨ (e = .returned (.bool false) ∧ Jx (bkT S (k + 1)) W')) := by
        show YieldAt F (n - 1) Try.prog l #[.int .i64 (m : Int), .agg #[.int .i64 S[m].kd, .int .i64 S[m].wh, .int .i64 S[m].cl, .int .i64 S[m].ws, .int .i64 S[m].is]] wr fun e W' => (e = .returned (.bool true) ∧ J (bkT S (k + 1)) W' ∧ Below n₀ wr W') ∨ (e = .returned (.bool false) ∧ Jx (bkT S (k + 1)) W')
        have := HY.out (bkT S k) ⟨m, hml⟩ wr HJS.out (by rw [HTL.out k (by omega)]; exact hlt)
        have e := HT.out k hlt
        subst hm
        rw [← e] at this
        exact this
      rw [hmi]
      have hwm : wrap64 ((m : Int) - 1) = (m : Int) - 1 := by unfold wrap64; omega
      have HNX : Hid ((m : Int) - 1 = (S.length : Int) - 1 - ((k + 1 : Nat) : Int)) := by show (m : Int) - 1 = _; omega
      have hge : decide ((0 : Int) ≤ (m : Int)) = true := decide_eq_true (by omega)
      clear hmi hm
      generalize S[m].kd = p0 at *
      generalize S[m].wh = p1 at *
      generalize S[m].cl = p2 at *
      generalize S[m].ws = p3 at *
      generalize S[m].is = p4 at *
      obtain ⟨fn, tmps, assign, body, hy, hR⟩ := HYk.out
      clear HYk
      gi_wp2
      refine hR.mono ?_
      rintro e W3 (⟨rfl, hJ3, hk3⟩ | ⟨rfl, hJx3⟩)
      · have HJ3 := hid hJ3
        have HK3 : Hid (Below n₀ W W3) := HBEL.out.trans hk3
        clear hJ3 hk3 hR
        gi_wp2
        go_roundw
        case rel => exact ⟨k + 1, hlt, by rw [HNX.out], HJ3.out, HK3.out⟩
        case measure => simp [intOf]
      · have HJX := hid hJx3
        clear hJx3 hR
        gi_wp2
        refine bodyPost_ret (results_none rfl _ _ _) rfl ?_
        exact ⟨⟨_, rfl⟩, .inr ⟨_, ⟨k + 1, hlt, rfl⟩, HJX.out⟩⟩
    · obtain rfl : k = S.length := by omega
      have hge : decide ((0 : Int) ≤ (S.length : Int) - 1 - (S.length : Int)) = false := decide_eq_false (by omega)
      clear hbel hlt hk
      gi_wp2
      go_end0
      exact ⟨⟨_, rfl⟩, .inl ⟨_, rfl, HJS.out⟩⟩
theorem back_stops (F : Fence) (n : Nat) (h6 : F.fn 42) (hro : F.round = none) (hn : 1 ≤ n) (Bm n₀ cap : Nat) (a : Option Addr) (S : List Nt) (w : World) (hlen : S.length ≤ 1048576) (hBm : Bm < n₀) (hn₀ : n₀ ≤ w.heap.size)
    (hcm : w.cell? ⟨Bm, 0, none⟩ = some (.slice a S.length cap)) (hG : Nts n₀ a S w) :
    SeqStopsK F n Try.prog 42 #[.pointer (some ⟨Bm, 0, none⟩)] (fun k : Fin S.length => #[Value.int .i64 (k.1 : Int), nv S k]) (Below n₀) (fun ys => ys = bkT S S.length) (fun pre => ∃ k, k ≤ S.length ∧ pre = bkT S k) S.length w := fun l J Jx W hW _ _ hY h0 =>
  back_in F n h6 hro hn l Bm n₀ cap a S hlen J Jx W hY hBm ((hW.cell (p := ⟨Bm, 0, none⟩) (by show Bm < _; omega)).trans hcm) (hG.below (hW.mono hn₀)) h0
theorem backN_any (a : Option Addr) (cap n : Nat) (w : World) :
    Calls Try.prog 40 #[.slice a n cap] w fun e w' => e = .returned (.func (.func 42) #[] #[.pointer (some ⟨w.heap.size, 0, none⟩)]) ∧ w' = w.alloc (.cells #[.slice a n cap] 29) := by
  go_enter Try.func40, Try.ntmps40
  go_wp2_with fail
  go_ret
  exact ⟨rfl, rfl⟩
/-- a note of one that is no set -/
def matchN (who : Int) (n : Nt) : Bool := decide (n.wh = who) && !decide (n.kd = 2)
/-- the last note of one, ahead of number k, that is no set -/
def lastN (l : List Nt) (who : Int) : Nat → Option Nat
  | 0 => none
  | k + 1 => if matchN who (l.getD k zeroNt) then some k else lastN l who k
def fromI (l : List Nt) (who : Int) : Nat := (lastN l who l.length).getD 0
def isO (l : List Nt) (who : Int) : Bool := match lastN l who l.length with
  | some i => decide ((l.getD i zeroNt).kd = 1)
  | none => false
def NoM (S : List Nt) (who : Int) (pre : List (Fin S.length)) : Prop := ∀ x ∈ pre, matchN who S[x.1] = false
theorem lastN_skip (S : List Nt) (who : Int) : ∀ j, j ≤ S.length → NoM S who (bkT S j) → lastN S who S.length = lastN S who (S.length - j)
  | 0, _, _ => rfl
  | j + 1, h, hN => by
    rw [bkT_succ S j h] at hN
    rw [lastN_skip S who j (by omega) (fun x hx => hN x (List.mem_append_left _ hx))]
    have hx := hN ⟨S.length - 1 - j, by omega⟩ (by simp)
    have e : S.length - j = (S.length - 1 - j) + 1 := by omega
    rw [e]
    show (if matchN who (S.getD (S.length - 1 - j) zeroNt) then _ else _) = _
    rw [getD_in S _ zeroNt (by omega), hx]
    have e2 : S.length - (j + 1) = S.length - 1 - j := by omega
    rw [e2]; rfl
theorem lastN_none {S : List Nt} {who : Int} (h : NoM S who (bkT S S.length)) : lastN S who S.length = none := by
  rw [lastN_skip S who S.length (Nat.le_refl _) h, Nat.sub_self]; rfl
theorem lastN_some {S : List Nt} {who : Int} {k : Nat} (hk : k ≤ S.length) {init : List (Fin S.length)} {x : Fin S.length} (h : bkT S k = init ++ [x]) (hN : NoM S who init) (hx : matchN who S[x.1] = true) : lastN S who S.length = some x.1 := by
  cases k with
  | zero => simp [bkT] at h
  | succ j =>
    rw [bkT_succ S j (by omega)] at h
    obtain ⟨h1, h2⟩ := List.append_inj' h rfl
    have h3 : (⟨S.length - 1 - j, by omega⟩ : Fin S.length) = x := by simpa using h2
    subst h1 h3
    rw [lastN_skip S who j (by omega) hN]
    have e : S.length - j = (S.length - 1 - j) + 1 := by omega
    rw [e]
    show (if matchN who (S.getD (S.length - 1 - j) zeroNt) then some (S.length - 1 - j) else _) = _
    rw [getD_in S _ zeroNt (by omega), hx]; rfl
theorem from_some {S : List Nt} {who : Int} {x : Nat} (hx : x < S.length) (h : lastN S who S.length = some x) : fromI S who = x ∧ isO S who = decide (S[x].kd = 1) := by
  refine ⟨by unfold fromI; rw [h]; rfl, ?_⟩
  unfold isO; rw [h]
  show decide ((S.getD x zeroNt).kd = 1) = _
  rw [getD_in S x zeroNt hx]
theorem from_none {S : List Nt} {who : Int} (h : lastN S who S.length = none) : fromI S who = 0 ∧ isO S who = false := by
  refine ⟨by unfold fromI; rw [h]; rfl, ?_⟩
  unfold isO; rw [h]
end Go.Proofs.Ytgompioaknfjgab
