/- slices.Values, slices.AppendSeq, slices.Collect, slices.Sort and slices.Sorted over numbers. -/
import Derived.Test.YtpjmblhfahbopaaAApp
import Derived.Test.YtpjmblhfahbopaaASort
import Derived.Test.YtpjmblhfahbopaaASrt
import Derived.RangeFuncNested
import Derived.RangeFuncBound
import Derived.RangeFuncCalls
import Derived.RangeFuncLeaves
import Derived.RangeFuncBox
import Derived.Shelf.Abstract
import Derived.Shelf.RegionOpen
import Derived.WalkKit
import Derived.OwnWalkIn
import Derived.TacticsInMore
import Derived.LoopNIn
import Derived.LoopIn
import Derived.Maps.AppendAt
namespace Go.Proofs.Ytpjmblhfahbopaa
set_option maxRecDepth 100000
open Go Go.ChangeShapes Go.WideShapes Go.ChangeAt Go.RowKit Go.Shelf
attribute [local go_sem] Oper.semAt_some
theorem take_succ_i (l : List Int) (k : Nat) (h : k < l.length) : l.take (k + 1) = l.take k ++ [l[k]] := List.take_succ_eq_append_getElem h
set_option maxHeartbeats 2000000 in
theorem valuesI_in (F : Fence) (n : Nat) (h6 : F.fn 67) (hro : F.round = none) (hn : 1 ≤ n) (l Bm n₀ cap : Nat) (a : Option Addr) (S : List Int) (hlen : S.length ≤ 1048576) (J Jx : List Int → World → Prop)
    (W : World)
    (hY : ∀ pre k W, J pre W → pre.length < S.length → YieldAt F (n - 1) Try.prog l #[.int .i64 k] W fun e W' =>
      (e = .returned (.bool true) ∧ J (pre ++ [k]) W' ∧ Below n₀ W W') ∨ (e = .returned (.bool false) ∧ Jx (pre ++ [k]) W'))
    (hcm : W.cell? ⟨Bm, 0, none⟩ = some (.slice a S.length cap)) (hG : Is n₀ a S W) (h0 : J [] W) :
    CallsIn F n Try.prog 67 #[.func (.yield l) #[] #[], .pointer (some ⟨Bm, 0, none⟩)] W fun e W' => (∃ v, e = .returned v) ∧
      ((∃ ys, ys = S ∧ J ys W') ∨ (∃ pre, (∃ k, k ≤ S.length ∧ pre = S.take k) ∧ Jx pre W')) := by
  have HY := hid hY
  have HG := hid hG
  have HT := hid (take_succ_i S)
  clear hY hG
  refine callsIn_of_wp Try.func67 rfl h6 ?_ hro
  simp only [Try.ntmps67, List.size_toArray, List.length_cons, List.length_nil, Nat.reduceAdd, Nat.reduceSub, Array.replicate_succ, Array.replicate_zero, List.push_toArray, List.append_toArray, List.nil_append, List.cons_append]
  gi_wp2
  clear hcm
  gi_loopw [7] (fun i wr => ∃ k : Nat, k ≤ S.length ∧ i = .int .i64 k ∧ J (S.take k) wr ∧ Below n₀ W wr) (fun i _ => S.length - (intOf i).toNat)
  case atStart => exact ⟨0, Nat.zero_le _, rfl, by simpa using h0, Below.refl _ _⟩
  case round =>
    obtain ⟨k, hk, rfl, hJs, hbel⟩ := hrel
    have HJS := hid hJs
    have HBEL := hid hbel
    clear hJs
    by_cases hlt : k < S.length
    · obtain ⟨b, off, rfl, hb, hc⟩ := (HG.out.below hbel).cell (by omega)
      have c0 := hc k hlt
      clear hbel hc
      have HYk : Hid (YieldAt F (n - 1) Try.prog l #[.int .i64 S[k]] wr fun e W' => (e = .returned (.bool true) ∧ J (S.take (k + 1)) W' ∧ Below n₀ wr W') ∨ (e = .returned (.bool false) ∧ Jx (S.take (k + 1)) W')) := by
        show YieldAt F (n - 1) Try.prog l #[.int .i64 S[k]] wr fun e W' => (e = .returned (.bool true) ∧ J (S.take (k + 1)) W' ∧ Below n₀ wr W') ∨ (e = .returned (.bool false) ∧ Jx (S.take (k + 1)) W')
        have := HY.out (S.take k) S[k] wr HJS.out (by rw [List.length_take]; omega)
        rw [← HT.out k hlt] at this
        exact this
      generalize S[k] = x at *
      obtain ⟨fn, tmps, assign, body, hy, hR⟩ := HYk.out
      clear HYk
      gi_wp2
      refine hR.mono ?_
      rintro e W3 (⟨rfl, hJ3, hk3⟩ | ⟨rfl, hJx3⟩)
      · have HJ3 := hid hJ3
        have HK3 : Hid (Below n₀ W W3) := HBEL.out.trans hk3
        clear hJ3 hk3 hR
        gi_wp2
        go_roundw
        case rel => exact ⟨k + 1, hlt, by simp, HJ3.out, HK3.out⟩
        case measure => simp [intOf]; omega
      · have HJX := hid hJx3
        clear hJx3 hR
        gi_wp2
        refine bodyPost_ret (results_none rfl _ _ _) rfl ?_
        exact ⟨⟨_, rfl⟩, .inr ⟨_, ⟨k + 1, hlt, rfl⟩, HJX.out⟩⟩
    · obtain rfl : k = S.length := by omega
      rw [List.take_length] at HJS
      clear hbel
      gi_wp2
      go_end0
      exact ⟨⟨_, rfl⟩, .inl ⟨_, rfl, HJS.out⟩⟩
theorem valuesI_stops (F : Fence) (n : Nat) (h6 : F.fn 67) (hro : F.round = none) (hn : 1 ≤ n) (Bm n₀ cap : Nat) (a : Option Addr) (S : List Int) (w : World) (hlen : S.length ≤ 1048576) (hBm : Bm < w.heap.size) (hn₀ : n₀ ≤ w.heap.size)
    (hcm : w.cell? ⟨Bm, 0, none⟩ = some (.slice a S.length cap)) (hG : Is n₀ a S w) :
    SeqStopsK F n Try.prog 67 #[.pointer (some ⟨Bm, 0, none⟩)] (fun x : Int => #[Value.int .i64 x]) (Below n₀) (fun ys => ys = S) (fun pre => ∃ k, k ≤ S.length ∧ pre = S.take k) S.length w := fun l J Jx W hW _ _ hY h0 =>
  valuesI_in F n h6 hro hn l Bm n₀ cap a S hlen J Jx W hY ((hW.cell (p := ⟨Bm, 0, none⟩) hBm).trans hcm) (hG.below (hW.mono hn₀)) h0
theorem valuesI_any (a : Option Addr) (cap n : Nat) (w : World) :
    Calls Try.prog 58 #[.slice a n cap] w fun e w' => e = .returned (.func (.func 67) #[] #[.pointer (some ⟨w.heap.size, 0, none⟩)]) ∧ w' = w.alloc (.cells #[.slice a n cap] 23) := by
  go_enter Try.func58, Try.ntmps58
  go_wp2_with fail
  go_ret
  exact ⟨rfl, rfl⟩
set_option maxHeartbeats 2000000 in
theorem appSeq_in (F : Fence) (n : Nat) (h3 : F.fn 69) (hro : F.round = none) (hn : 3 ≤ n) (gf : Nat) (lb : Array Value) (hFg : F.fn gf) (eg : ∀ args w, (callFunc gf args).run Try.prog w = .ok (.enter gf args) w)
    (l : List Int) (Sp : List Int → Prop) (w : World) (hlen : l.length ≤ 9000)
    (hseq : ∀ W0, Below w.heap.size w W0 → SeqStopsK F (n - 1) Try.prog gf lb (fun x : Int => #[Value.int .i64 x]) (Below w.heap.size) (fun ys => ys = l) Sp l.length W0) :
    CallsIn F n Try.prog 69 #[.slice none 0 0, .func (.func gf) #[] lb] w fun e W' => ∃ v, e = .returned v ∧ W'.ownsRow w.heap.size 3 1 v l.length (l.map (Value.int .i64)) ∧ Below w.heap.size w W' := by
  have h1 : 1 ≤ n := by omega
  obtain ⟨i0, hi, hz0, hz1, hz2⟩ := info_parts infoI
  refine callsIn_of_wp_marks Try.func69 rfl h3 ?_ hro
  simp only [Try.ntmps69, List.size_toArray, List.length_cons, List.length_nil, Nat.reduceAdd, Nat.reduceSub, Array.replicate_succ, Array.replicate_zero, List.push_toArray, List.append_toArray, List.nil_append, List.cons_append]
  gi_wp2
  have bO := Boxed.new w 23 (.slice none 0 0)
  have hB0 : Below w.heap.size w (w.alloc (.cells #[.slice none 0 0] 23)) := (Below.refl _ w).alloc (Nat.le_refl _) _
  refine wpIn_rangeFunc_ownG hro h1 (gf := gf) (lb := lb) rfl hFg eg (hseq _ hB0) belowK_t (belowK_b (by simp)) (Below.refl _ _) (fun _ => rfl)
    (fun pre W => (∃ v, Boxed W w.heap.size 23 v ∧ W.ownsRow w.heap.size 3 1 v pre.length (pre.map (Value.int .i64)) ∧ True) ∧ Below w.heap.size w W)
    (fun _ _ _ => False)
    (OwnFrom.and (Own.from (holdsRow_own w.heap.size w.heap.size 23 3 1 (fun pre : List Int => pre.length) (fun pre : List Int => pre.map (Value.int .i64)) (fun _ _ => True)) _) (ownFrom_below (Nat.le_refl _) (by simp)))
    (fun _ _ _ _ _ hs _ _ => hs)
    ⟨⟨_, bO, World.ownsRow_nil _ _ _ _, trivial⟩, hB0⟩
    (fun x => { tmps := #[.slice none 0 0, .func (.func gf) #[] lb, .pointer (some ⟨w.heap.size, 0, none⟩), undef, .slice none 0 0, .int .i64 x, .func (.func gf) #[] lb, .int .i64 x, undef, undef, undef, undef, undef], defers := [] }) ?assign ?body ?done ?stop
  case assign =>
    intro l x W K hK
    gi_wp2
    exact hK
  case body =>
    rintro l pre x W ⟨⟨v, hv, hrow, _⟩, hB⟩ hlt
    have hc := hv.cell
    gi_wp2_with (gi_at_builtin; refine wpListIn_append_own _ rfl _ _ 23 rfl w.heap.size 3 i0 (.int .i64 0) 1 8 Try.underlying23 hi hz0 hz1 hz2 rfl (by decide) _ _ _ rfl (hrow.alloc _) ⟨W.heap.size, 0, none⟩ 1 1 [.int .i64 x] rfl rfl (cell_one_new _ _ _) (by simp [Value.oneCell']) (by unfold maxLen; omega) (by omega) (by have := hB.size; simp; omega) ?_; intro v' w1 hown' hgrow _; obtain ⟨g', cap', rfl⟩ := ownsRow_succ hown'; obtain ⟨hv1, hv2, hr2, hk2, hb2⟩ := hv.appended (by decide) hrow hB.size (Nat.le_refl _) hown' hgrow; have hc1 := hv1.cell; have hf1 := hv1.frozen)
    exact ⟨hk2.from _, hb2, ⟨_, hv2, by simpa using hr2, trivial⟩, hB.trans hb2⟩
  case done =>
    rintro D ys W hD rfl ⟨⟨v, hv, hrow, _⟩, hB⟩ hK
    have hc := hv.cell
    gi_wp2
    refine ⟨by simp, .inl ⟨_, _, rfl, run_takeDeferred hK, ?_⟩⟩
    exact ⟨_, results_tmp rfl _ _ _, v, rfl, ownsRow_putObj hrow _ hK rfl, hB.trans (belowK_b (w := w) (Nat.le_refl _) W D _ _ (by simp at hD; omega) hK rfl rfl)⟩
  case stop =>
    rintro D c pre W _ _ h _
    exact h.elim
theorem appSeq_any (Bm : Nat) (a : Option Addr) (cap : Nat) (l : List Int) (w : World) (hn : l.length ≤ 9000) (hBm : Bm < w.heap.size) (hcm : w.cell? ⟨Bm, 0, none⟩ = some (.slice a l.length cap)) (hG : Is w.heap.size a l w) :
    Calls Try.prog 69 #[.slice none 0 0, .func (.func 67) #[] #[.pointer (some ⟨Bm, 0, none⟩)]] w fun e w' => ∃ v, e = .returned v ∧ AL w.heap.size v l w' ∧ Below w.heap.size w w' :=
  (callsIn_wide (n := 6)).1 (appSeq_in Fence.wide 6 trivial rfl (by omega) 67 _ trivial (enters_of Try.func67 (by kernel_rfl) rfl) l _ w hn
    (fun W0 g0 => valuesI_stops Fence.wide 5 trivial rfl (by omega) Bm w.heap.size cap a l W0 (by omega) (Nat.lt_of_lt_of_le hBm g0.size) g0.size ((g0.cell (p := ⟨Bm, 0, none⟩) hBm).trans hcm) (hG.below g0)))
set_option maxHeartbeats 400000 in
theorem collectI_any (Bm : Nat) (a : Option Addr) (cap : Nat) (l : List Int) (w : World) (hn : l.length ≤ 9000) (hBm : Bm < w.heap.size) (hcm : w.cell? ⟨Bm, 0, none⟩ = some (.slice a l.length cap)) (hG : Is w.heap.size a l w) :
    Calls Try.prog 65 #[.func (.func 67) #[] #[.pointer (some ⟨Bm, 0, none⟩)]] w fun e w' => ∃ v, e = .returned v ∧ AL w.heap.size v l w' ∧ Below w.heap.size w w' := by
  have H := hid (appSeq_any Bm a cap l w hn hBm hcm hG)
  clear hcm hG hBm
  go_enter Try.func65, Try.ntmps65
  go_wp2_with fail
  refine H.out.mono ?_
  rintro e w1 ⟨v, rfl, o1, b1⟩
  have HO := hid o1
  have HB := hid b1
  clear o1 b1 H
  go_wp2
  go_ret
  exact ⟨v, rfl, HO.out, HB.out⟩
/-- a list of one's own, sorted where it lies -/
theorem sortAL (lo : Nat) (v : Value) (l : List Int) (w : World) (hn : l.length ≤ 9000) (h : AL lo v l w) (hlo : lo ≤ w.heap.size) :
    Calls Try.prog 66 #[v] w fun e w' => e = .returned (.tuple #[]) ∧ AL lo v (sortN l) w' ∧ Below lo w w' := by
  have h9 : w.ownsRow lo 3 1 v l.length (ivals l) := h
  rcases h9.2 with ⟨rfl, hz⟩ | ⟨gb, cap, cur, rfl, hbase, hgb, r1, r2, r3, r4⟩
  · obtain rfl : l = [] := List.eq_nil_of_length_eq_zero hz
    exact (sortI_none none 0 w).mono fun e w' ⟨he, hw⟩ => ⟨he, by rw [hw]; exact h, by rw [hw]; exact Below.refl _ _⟩
  · have hH : Go.Sort.Holds (Value.int .i64) w gb 0 l.toArray := holds_of_block_i hgb (by rw [Nat.mul_one] at r4; exact r4)
    have hgl : gb < w.heap.size := (Array.getElem?_eq_some_iff.1 hgb).1
    refine (sortI_row gb 0 cap l w hH hgl (by omega)).mono ?_
    rintro e w' ⟨he, nn, os, rfl⟩
    refine ⟨he, ?_, below_of_grown (grownBy_sorted_i _) hlo (fun k hk => by cases hk; exact hbase)⟩
    have := ownsRow_sorted_i (n := nn) (os := os) (ts := l.mergeSort fun x y => decide (x ≤ y)) (by simp) hbase hgb r1 r2 r3
    unfold AL
    rw [sortN_len, ← merge_eq]
    exact this
set_option maxHeartbeats 400000 in
theorem sortedI_any (Bm : Nat) (a : Option Addr) (cap : Nat) (l : List Int) (w : World) (hn : l.length ≤ 9000) (hBm : Bm < w.heap.size) (hcm : w.cell? ⟨Bm, 0, none⟩ = some (.slice a l.length cap)) (hG : Is w.heap.size a l w) :
    Calls Try.prog 57 #[.func (.func 67) #[] #[.pointer (some ⟨Bm, 0, none⟩)]] w fun e w' => ∃ v, e = .returned v ∧ AL w.heap.size v (sortN l) w' ∧ Below w.heap.size w w' := by
  have H := hid (collectI_any Bm a cap l w hn hBm hcm hG)
  clear hcm hG hBm
  go_enter Try.func57, Try.ntmps57
  go_wp2_with fail
  refine H.out.mono ?_
  rintro e w1 ⟨v, rfl, o1, b1⟩
  have HS := hid (sortAL w.heap.size v l w1 hn o1 b1.size)
  have HB := hid b1
  clear o1 b1 H
  go_wp2_with fail
  refine HS.out.mono ?_
  rintro e w2 ⟨rfl, o2, b2⟩
  have HO := hid o2
  have HB2 : Hid (Below w.heap.size w w2) := HB.out.trans b2
  clear o2 b2 HS HB
  go_wp2
  go_ret
  exact ⟨v, rfl, HO.out, HB2.out⟩
set_option maxHeartbeats 400000 in
theorem rising_any (a : Option Addr) (cap : Nat) (l : List Int) (w : World) (hn : l.length ≤ 9000) (hG : Is w.heap.size a l w) :
    Calls Try.prog 38 #[.slice a l.length cap] w fun e w' => ∃ v, e = .returned v ∧ AL w.heap.size v (sortN l) w' ∧ Below w.heap.size w w' := by
  have hb := boxB w (.cells #[.slice a l.length cap] 23)
  have hc : (w.alloc (.cells #[.slice a l.length cap] 23)).cell? ⟨w.heap.size, 0, none⟩ = some (.slice a l.length cap) := box_cell (heap_last _ _) 0
  have H := hid (sortedI_any w.heap.size a cap l (w.alloc (.cells #[.slice a l.length cap] 23)) hn (by simp) hc ((hG.below hb).mono hb.size))
  have HB := hid hb
  clear hb hc hG
  go_enter Try.func38, Try.ntmps38
  go_wp2_with fail
  refine (valuesI_any a cap l.length w).mono ?_
  rintro e w1 ⟨rfl, hw1⟩
  rw [hw1]
  clear hw1
  go_wp2_with fail
  refine H.out.mono ?_
  rintro e w2 ⟨v, rfl, o2, b2⟩
  have HO : Hid (AL w.heap.size v (sortN l) w2) := o2.mono (by simp)
  have HB2 : Hid (Below w.heap.size w w2) := HB.out.trans (b2.mono (by simp))
  clear o2 b2 H HB
  go_wp2
  go_ret
  exact ⟨v, rfl, HO.out, HB2.out⟩
end Go.Proofs.Ytpjmblhfahbopaa
