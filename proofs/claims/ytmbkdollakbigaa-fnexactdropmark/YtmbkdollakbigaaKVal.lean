/- The contract of slices.Values over layers; written by mkkv.py. -/
import Derived.Test.YtmbkdollakbigaaKUp
namespace Go.Proofs.Ytmbkdollakbigaa
set_option maxRecDepth 100000
open Go Go.ChangeShapes Go.WideShapes Go.ChangeAt Go.RowKit Go.Shelf
attribute [local go_sem] Oper.semAt_some
set_option maxHeartbeats 4000000 in
theorem values_in (F : Fence) (n : Nat) (h6 : F.fn 57) (hro : F.round = none) (hn : 1 ≤ n) (l Bm n₀ b off cap : Nat) (S : List Ly) (A : Nat → LA) (hlen : S.length ≤ 1048576) (J Jx : List (Fin S.length) → World → Prop)
    (W : World) (hn0 : n₀ ≤ W.heap.size) (hJ : AbidesFrom W.heap.size J)
    (hY : ∀ pre k W, J pre W → pre.length < S.length → YieldAt F (n - 1) Try.prog l #[lyw S A k] W fun e W' =>
      (e = .returned (.bool true) ∧ J (pre ++ [k]) W' ∧ Below n₀ W W') ∨ (e = .returned (.bool false) ∧ Jx (pre ++ [k]) W'))
    (hcm : W.cell? ⟨Bm, 0, none⟩ = some (.slice (some ⟨b, off, none⟩) S.length cap)) (hG : YsA n₀ b off A S W) (h0 : J [] W) :
    CallsIn F n Try.prog 57 #[.func (.yield l) #[] #[], .pointer (some ⟨Bm, 0, none⟩)] W fun e W' => (∃ v, e = .returned v) ∧
      ((∃ ys, ys = upT S (S.length) ∧ J ys W') ∨ (∃ pre, (∃ k, k ≤ S.length ∧ pre = upT S k) ∧ Jx pre W')) := by
  have HY := hid hY
  have HJ := hid hJ
  have HG := hid hG
  have HT := hid (upT_succ S)
  have HTL := hid (upT_length S)
  have HN0 := hid hn0
  clear hY hJ hG hn0
  refine callsIn_of_wp Try.func57 rfl h6 ?_ hro
  simp only [Try.ntmps57, List.size_toArray, List.length_cons, List.length_nil, Nat.reduceAdd, Nat.reduceSub, Array.replicate_succ, Array.replicate_zero, List.push_toArray, List.append_toArray, List.nil_append, List.cons_append]
  gi_wp2
  clear hcm
  gi_loopw [7] (fun i wr => ∃ k : Nat, k ≤ S.length ∧ i = .int .i64 k ∧ J (upT S k) wr ∧ Below n₀ W wr) (fun i _ => S.length - (intOf i).toNat)
  case atStart => exact ⟨0, Nat.zero_le _, rfl, by simpa [upT] using h0, Below.refl _ _⟩
  case round =>
    obtain ⟨k, hk, rfl, hJs, hbel⟩ := hrel
    have HJS := hid hJs
    have HBEL := hid hbel
    have HNR := hid (Nat.le_trans HN0.out hbel.size)
    clear hJs
    by_cases hlt : k < S.length
    · obtain ⟨c0, c1, c2, _, _⟩ := (HG.out.below hbel).2 k hlt
      clear hbel
      have HLW : Hid (lyw S A ⟨k, hlt⟩ = .agg #[.int .i64 S[k].mark, .slice (A k).p S[k].bl.length (A k).c, .slice (A k).q S[k].dt.length (A k).d]) := rfl
      have HYk : Hid (∀ V, J (upT S k) V → k < S.length → YieldAt F (n - 1) Try.prog l #[.agg #[.int .i64 S[k].mark, .slice (A k).p S[k].bl.length (A k).c, .slice (A k).q S[k].dt.length (A k).d]] V fun e W' => (e = .returned (.bool true) ∧ J (upT S (k + 1)) W' ∧ Below n₀ V W') ∨ (e = .returned (.bool false) ∧ Jx (upT S (k + 1)) W')) := fun V hV hku => by
        have := HY.out (upT S k) ⟨k, hlt⟩ V hV (by rw [HTL.out k (by omega)]; exact hku)
        rw [HLW.out, ← HT.out k hlt] at this
        exact this
      clear HLW
      generalize (A k).p = p at *
      generalize (A k).c = c at *
      generalize (A k).q = q at *
      generalize (A k).d = d at *
      generalize hs : S[k] = s at *
      obtain ⟨m, bl, dt⟩ := s
      simp only at c0 c1 c2 HYk
      have hbx := boxB wr (.cells #[.int .i64 m, .slice p bl.length c, .slice q dt.length d] 64)
      have HB1 : Hid (Below n₀ wr (wr.alloc (.cells #[.int .i64 m, .slice p bl.length c, .slice q dt.length d] 64))) := hbx.mono HNR.out
      have HJ1 : Hid (J (upT S k) (wr.alloc (.cells #[.int .i64 m, .slice p bl.length c, .slice q dt.length d] 64))) := HJ.out _ _ _ none HJS.out (World.grownBy_alloc _ _ _) (fun r e => by cases e)
      have y0 : (wr.alloc (.cells #[.int .i64 m, .slice p bl.length c, .slice q dt.length d] 64)).cell? ⟨wr.heap.size, 0, none⟩ = some (.int .i64 m) := box_cell (heap_last _ _) 0
      have y1 : (wr.alloc (.cells #[.int .i64 m, .slice p bl.length c, .slice q dt.length d] 64)).cell? ⟨wr.heap.size, 1, none⟩ = some (.slice p bl.length c) := box_cell (heap_last _ _) 1
      have y2 : (wr.alloc (.cells #[.int .i64 m, .slice p bl.length c, .slice q dt.length d] 64)).cell? ⟨wr.heap.size, 2, none⟩ = some (.slice q dt.length d) := box_cell (heap_last _ _) 2
      clear hbx hs
      by_cases hku : k < S.length
      · obtain ⟨fn, tmps, assign, body, hy, hR⟩ := HYk.out _ HJ1.out hku
        have HKU := hid hku
        clear HYk hku
        gi_wp2
        refine hR.mono ?_
        rintro e W3 (⟨rfl, hJ3, hk3⟩ | ⟨rfl, hJx3⟩)
        · have HJ3 := hid hJ3
          have HK3 : Hid (Below n₀ W W3) := HBEL.out.trans (HB1.out.trans hk3)
          clear hJ3 hk3 hR
          gi_wp2
          go_roundw
          case rel => exact ⟨k + 1, HKU.out, by simp, HJ3.out, HK3.out⟩
          case measure => simp [intOf]; omega
        · have HJX := hid hJx3
          clear hJx3 hR
          gi_wp2
          refine bodyPost_ret (results_none rfl _ _ _) rfl ?_
          exact ⟨⟨_, rfl⟩, .inr ⟨_, ⟨k + 1, HKU.out, rfl⟩, HJX.out⟩⟩
      · exact absurd hlt hku
    · have HKE : Hid (k = S.length) := by show k = _; omega
      clear hbel
      gi_wp2
      go_end0
      exact ⟨⟨_, rfl⟩, .inl ⟨_, rfl, by rw [← HKE.out]; exact HJS.out⟩⟩
theorem values_stops (F : Fence) (n : Nat) (h6 : F.fn 57) (hro : F.round = none) (hn : 1 ≤ n) (Bm n₀ b off cap : Nat) (S : List Ly) (A : Nat → LA) (w : World) (hlen : S.length ≤ 1048576) (hBm : Bm < n₀) (hn₀ : n₀ ≤ w.heap.size)
    (hcm : w.cell? ⟨Bm, 0, none⟩ = some (.slice (some ⟨b, off, none⟩) S.length cap)) (hG : YsA n₀ b off A S w) :
    SeqStopsK F n Try.prog 57 #[.pointer (some ⟨Bm, 0, none⟩)] (fun k : Fin S.length => #[lyw S A k]) (Below n₀) (fun ys => ys = upT S (S.length)) (fun pre => ∃ k, k ≤ S.length ∧ pre = upT S k) (S.length) w := fun l J Jx W hW hJ _ hY h0 =>
  have g := hW.mono hn₀
  values_in F n h6 hro hn l Bm n₀ b off cap S A hlen J Jx W (Nat.le_trans hn₀ hW.size) hJ hY ((g.cell (p := ⟨Bm, 0, none⟩) hBm).trans hcm) (hG.below g) h0
end Go.Proofs.Ytmbkdollakbigaa
