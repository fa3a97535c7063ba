/- The program's ChangedIn. -/
import Derived.Test.YtmbkdollakbigaaKCr
import Derived.Test.YtmbkdollakbigaaKCz
import Derived.Test.YtmbkdollakbigaaKCl
import Derived.Test.YtmbkdollakbigaaKCm
namespace Go.Proofs.Ytmbkdollakbigaa
set_option maxRecDepth 100000
open Go Go.ChangeShapes Go.WideShapes Go.ChangeAt Go.RowKit Go.Shelf Go.Maps Go.Sort
attribute [local go_sem] Oper.semAt_some
attribute [-go_sem] Builtin.append_
set_option maxHeartbeats 8000000 in
theorem ichg_any (a : Option Addr) (c : Nat) (A : List Ly) (m n : Int) (w : World) (hA : Mr a c A w) :
    Calls Try.prog 8 #[.agg #[.slice a A.length c], .int .i64 m, .int .i64 n] w (LOut (chgV A m n) (decide (ChgOk A m n)) w) := by
  have b0 := boxB w (.cells #[.slice a A.length c] 31)
  have k0 := heap_last w (.cells #[.slice a A.length c] 31)
  have HA0 := hid hA
  refine (callsIn_wide (n := 6)).1 ?_
  have hro : Fence.wide.round = none := rfl
  generalize hW : w.alloc (.cells #[.slice a A.length c] 31) = W at *
  have HX : Hid (∀ v, Below W.heap.size W v → v.cell? ⟨w.heap.size, 0, none⟩ = some (.slice a A.length c)) := fun v g => box_cell ((g.block _ (kboxS k0)).trans k0) 0
  have HU : Hid (∀ v, Below W.heap.size W v → Below w.heap.size w v) := fun v g => b0.trans (g.mono b0.size)
  have HA : Hid (∀ v, Below W.heap.size W v → Mr a c A v) := fun v g => hA.on (HU.out v g)
  have B0 : Hid (Below W.heap.size W W) := Below.refl _ _
  have HG1 : Hid (∀ v, Below W.heap.size W v → ∀ m', CallsIn Fence.wide m' Try.prog 22 #[.agg #[.slice a A.length c]] v fun e w' => e = .returned (.bool (goodK A)) ∧ Below v.heap.size v w') := fun v g m' => callsIn_wide.2 (HA.out v g).igood
  have HF1 : Hid (∀ v (x : Int), Below W.heap.size W v → ∀ m', CallsIn Fence.wide m' Try.prog 23 #[.agg #[.slice a A.length c], .int .i64 x] v fun e w' => e = .returned (.bool (decide (fndK A x < A.length))) ∧ Below v.heap.size v w') := fun v x g m' => callsIn_wide.2 ((HA.out v g).has x)
  have x0 := HX.out _ B0.out
  clear hA k0 b0
  refine callsIn_of_wp_marks Try.func8 rfl trivial ?_ hro
  simp only [Try.ntmps8, List.size_toArray, List.length_cons, List.length_nil, Nat.reduceAdd, Nat.reduceSub, Array.replicate_succ, Array.replicate_zero, List.push_toArray, List.append_toArray, List.nil_append, List.cons_append]
  have hF1 : Fence.wide.fn 22 := trivial
  have hF2 : Fence.wide.fn 23 := trivial
  have hF3 : Fence.wide.fn 25 := trivial
  have hF4 : Fence.wide.fn 24 := trivial
  have hF5 : Fence.wide.fn 26 := trivial
  have hF6 : Fence.wide.fn 27 := trivial
  have hF7 : Fence.wide.fn 28 := trivial
  have hF8 : Fence.wide.fn 29 := trivial
  have hmix : Try.prog.follows .mixedOrders = true := by kernel_rfl
  gi_wp2_with fail
  clear hW
  refine (HG1.out _ B0.out _).mono ?_
  rintro e w1 ⟨rfl, g1⟩
  have B1 : Hid (Below W.heap.size W w1) := B0.out.trans (g1.mono B0.out.size)
  clear g1 x0
  have x0 := HX.out _ B1.out
  by_cases hg : GoodK A
  case neg =>
    have e1 : Hid (chgV A m n = [] ∧ decide (ChgOk A m n) = false) := ⟨if_neg (fun h => hg h.1), decide_eq_false (fun h => hg h.1)⟩
    rw [goodK_no hg]
    clear hg HF1 HG1
    gi_wp2_with fail
    refine ⟨_, by simp [results, Try.results8, go_sem]; rfl, ?_⟩
    rw [e1.out.1, e1.out.2]
    exact LOut.no (HU.out _ B1.out)
  have HGK := hid hg
  rw [goodK_iff.2 hg]
  clear hg
  gi_wp2_with fail
  refine (HF1.out _ m B1.out _).mono ?_
  rintro e w2 ⟨rfl, g2⟩
  have B2 : Hid (Below W.heap.size W w2) := B1.out.trans (g2.mono B1.out.size)
  clear g2 x0
  have x0 := HX.out _ B2.out
  by_cases hf : fndK A m < A.length
  case neg =>
    have e1 : Hid (chgV A m n = [] ∧ decide (ChgOk A m n) = false) := ⟨if_neg (fun h => hf h.2.1), decide_eq_false (fun h => hf h.2.1)⟩
    rw [decide_eq_false hf]
    clear hf HGK HF1 HG1
    gi_wp2_with fail
    refine ⟨_, by simp [results, Try.results8, go_sem]; rfl, ?_⟩
    rw [e1.out.1, e1.out.2]
    exact LOut.no (HU.out _ B2.out)
  have HFM := hid hf
  rw [decide_eq_true hf]
  clear hf
  gi_wp2_with fail
  refine (HF1.out _ n B2.out _).mono ?_
  rintro e w3 ⟨rfl, g3⟩
  have B3 : Hid (Below W.heap.size W w3) := B2.out.trans (g3.mono B2.out.size)
  clear g3 x0
  have x0 := HX.out _ B3.out
  by_cases hh : fndK A n < A.length
  case neg =>
    have e1 : Hid (chgV A m n = [] ∧ decide (ChgOk A m n) = false) := ⟨if_neg (fun h => hh h.2.2), decide_eq_false (fun h => hh h.2.2)⟩
    rw [decide_eq_false hh]
    clear hh HGK HF1 HG1 HFM
    gi_wp2_with fail
    refine ⟨_, by simp [results, Try.results8, go_sem]; rfl, ?_⟩
    rw [e1.out.1, e1.out.2]
    exact LOut.no (HU.out _ B3.out)
  have e1 : Hid (chgV A m n = unl (atF A (fndK A m)) (atF A (fndK A n)) 16 ∧ decide (ChgOk A m n) = true) := ⟨if_pos ⟨HGK.out, HFM.out, hh⟩, decide_eq_true ⟨HGK.out, HFM.out, hh⟩⟩
  have HFN := hid hh
  rw [decide_eq_true hh]
  clear hh HG1 HF1
  have HOV : Hid (∀ (v : World) (P : Nat) (x : Int), Below w3.drew.heap.size w3.drew v → v.heap[P]? = some (.cells #[.slice a A.length c] 31 (0, 0)) → v.heap[P + 1]? = some (.cells #[.int .i64 x] 3 (0, 0)) → Calls Try.prog 24 #[.func (.func 47) #[] #[.pointer (some ⟨P, 0, none⟩), .pointer (some ⟨P + 1, 0, none⟩)]] v fun e w' => e = .returned (.map (some v.heap.size)) ∧ (∃ (D : DataW Unit) (N : Nat), w'.ownsMap Try.prog 3 keptE v.heap.size N D ∧ N ≤ 16777216 ∧ TellsK D (TU A x) (KU A x)) ∧ Below v.heap.size v w') := fun v P x g p1 p2 => by
    have hm := HA0.out.on (HU.out _ (B3.out.drew.trans (g.mono (Below.drew B3.out).size)))
    exact overUK_any P (P + 1) a c A x v HGK.out hm.fit.bl (kboxS p1) (kboxS p2) (box_cell p1 0) (box_cell p2 0) hm.ys
  gi_upto_region 3 with fail
  refine wpIn_mono (Q := fun e a' W' => e = .normal ∧ ∃ u28 u29 u30 u31 u32 u33 u34 u35 u8 u9 : Value, a' = { tmps := #[.agg #[.slice a A.length c], .int .i64 m, .int .i64 n, .pointer (some ⟨w.heap.size, 0, none⟩), undef, undef, .slice none 0 0, .bool false, u8, u9, undef, undef, undef, .agg #[.slice a A.length c], .bool true, .bool false, .bool false, .agg #[.slice a A.length c], .int .i64 m, .bool true, .bool false, .bool false, .bool false, .agg #[.slice a A.length c], .int .i64 n, .bool true, .bool false, .bool false, u28, u29, u30, u31, u32, u33, u34, u35, undef, undef, undef, undef, undef, undef, undef, undef, undef, undef, undef, undef, undef, undef, undef, undef, undef, undef, undef, undef, undef], defers := [] } ∧ R3 A a c m n w3.drew (fun _ => true) u28 u29 u30 u31 u32 u33 u34 u35 u8 u9 W') ?_ ?_
  · refine wpIn_wide.2 ?_
    have BD : Hid (Below W.heap.size W w3.drew) := B3.out.drew
    clear x0 e1 B0 B1 B2
    refine wp_region_inv (I := fun d a' v => ∃ u28 u29 u30 u31 u32 u33 u34 u35 u8 u9 : Value, a' = { tmps := #[.agg #[.slice a A.length c], .int .i64 m, .int .i64 n, .pointer (some ⟨w.heap.size, 0, none⟩), undef, undef, .slice none 0 0, .bool false, u8, u9, undef, undef, undef, .agg #[.slice a A.length c], .bool true, .bool false, .bool false, .agg #[.slice a A.length c], .int .i64 m, .bool true, .bool false, .bool false, .bool false, .agg #[.slice a A.length c], .int .i64 n, .bool true, .bool false, .bool false, u28, u29, u30, u31, u32, u33, u34, u35, undef, undef, undef, undef, undef, undef, undef, undef, undef, undef, undef, undef, undef, undef, undef, undef, undef, undef, undef, undef, undef], defers := [] } ∧ R3 A a c m n w3.drew d u28 u29 u30 u31 u32 u33 u34 u35 u8 u9 v) hmix (by kernel_rfl) ?h0 ?hs ?he
    case h0 =>
      refine ⟨undef, undef, undef, undef, undef, undef, undef, undef, undef, undef, rfl, ?_⟩
      constructor
      · exact Below.refl _ _
      all_goals (intro e; cases e)
    case he =>
      rintro d a' v hall ⟨u28, u29, u30, u31, u32, u33, u34, u35, u8, u9, rfl, hR⟩
      refine ⟨rfl, u28, u29, u30, u31, u32, u33, u34, u35, u8, u9, rfl, ?_⟩
      have ed : ∀ k, k < 12 → d k = true := fun k hk => hall k hk
      exact { hR with v0 := fun _ => hR.v0 (ed 0 (by omega)), v1 := fun _ => hR.v1 (ed 1 (by omega)), v2 := fun _ => hR.v2 (ed 2 (by omega)), v3 := fun _ => hR.v3 (ed 3 (by omega)), v4 := fun _ => hR.v4 (ed 4 (by omega)), v5 := fun _ => hR.v5 (ed 5 (by omega)), v6 := fun _ => hR.v6 (ed 6 (by omega)), v7 := fun _ => hR.v7 (ed 7 (by omega)), v8 := (fun _ => by obtain ⟨X, z, q1, q2, q3, q4⟩ := hR.v8 (ed 8 (by omega)); exact ⟨X, z, q1, q2, q3, fun _ => q4 (ed 10 (by omega))⟩), v9 := (fun _ => by obtain ⟨X, z, q1, q2, q3, q4⟩ := hR.v9 (ed 9 (by omega)); exact ⟨X, z, q1, q2, q3, fun _ => q4 (ed 11 (by omega))⟩), ne := fun _ _ => hR.ne (ed 8 (by omega)) (ed 9 (by omega)), o10 := fun _ => rfl, o11 := fun _ => rfl, p10 := fun _ => rfl, p11 := fun _ => rfl }
    case hs =>
      intro j hj d a' v hd hnd hI
      have hj12 : j < 12 := hj
      clear hj
      obtain (rfl | rfl | rfl | rfl | rfl | rfl | rfl | rfl | rfl | rfl | rfl | rfl) : j = 0 ∨ j = 1 ∨ j = 2 ∨ j = 3 ∨ j = 4 ∨ j = 5 ∨ j = 6 ∨ j = 7 ∨ j = 8 ∨ j = 9 ∨ j = 10 ∨ j = 11 := by omega
      · skip
        obtain ⟨u28, u29, u30, u31, u32, u33, u34, u35, u8, u9, rfl, hR⟩ := hI
        have x0 := HX.out v (BD.out.trans (hR.b.mono BD.out.size))
        refine wpOp_step rfl (fun K hK0 => ?_)
        have hK := hid hK0
        clear hK0
        rw [if_pos (by rfl)]
        go_simp
        exact hK.out _ _ ⟨_, _, _, _, _, _, _, _, _, _, rfl, { hR with v0 := fun _ => rfl }⟩
      · skip
        obtain ⟨u28, u29, u30, u31, u32, u33, u34, u35, u8, u9, rfl, hR⟩ := hI
        have x0 := HX.out v (BD.out.trans (hR.b.mono BD.out.size))
        refine wpOp_step rfl (fun K hK0 => ?_)
        have hK := hid hK0
        clear hK0
        rw [if_pos (by rfl)]
        go_simp
        exact hK.out _ _ ⟨_, _, _, _, _, _, _, _, _, _, rfl, { hR with v1 := fun _ => rfl }⟩
      · skip
        obtain ⟨u28, u29, u30, u31, u32, u33, u34, u35, u8, u9, rfl, hR⟩ := hI
        have x0 := HX.out v (BD.out.trans (hR.b.mono BD.out.size))
        obtain rfl := hR.v0 (hd 0 (of_decide_eq_true (by kernel_rfl)))
        obtain rfl := hR.v1 (hd 1 (of_decide_eq_true (by kernel_rfl)))
        have HC := layersUpTo_any a c A.length m v
        refine wpOp_step rfl (fun K hK0 => ?_)
        have hK := hid hK0
        clear hK0
        rw [if_pos (by rfl)]
        go_simp
        go_wp2_with (go_at_call 25; refine HC.mono ?_; rintro e v2 ⟨rfl, hv2⟩)
        have g1 := boxB v (.cells #[.slice a A.length c] 31)
        have s1 : (v.alloc (.cells #[.slice a A.length c] 31)).heap.size = v.heap.size + 1 := heap_size _ _
        have k1 := heap_last v (.cells #[.slice a A.length c] 31)
        have g2 := boxB (v.alloc (.cells #[.slice a A.length c] 31)) (.cells #[.int .i64 m] 3)
        have k2 := heap_last (v.alloc (.cells #[.slice a A.length c] 31)) (.cells #[.int .i64 m] 3)
        rw [s1] at k2
        have k1b := (g2.block _ (kboxS k1)).trans k1
        have hR2 := hR.grow (g1.trans (g2.mono g1.size))
        exact hK.out _ _ ⟨_, _, _, _, _, _, _, _, _, _, rfl, { hR2 with v2 := fun _ => ⟨v.heap.size, rfl, k1b, k2⟩ }⟩
      · skip
        obtain ⟨u28, u29, u30, u31, u32, u33, u34, u35, u8, u9, rfl, hR⟩ := hI
        have x0 := HX.out v (BD.out.trans (hR.b.mono BD.out.size))
        obtain ⟨P, rfl, p1, p2⟩ := hR.v2 (hd 2 (of_decide_eq_true (by kernel_rfl)))
        have HC := HOV.out v P m (hR.b) p1 p2
        refine wpOp_step rfl (fun K hK0 => ?_)
        have hK := hid hK0
        clear hK0
        rw [if_pos (by rfl)]
        go_simp
        go_wp2_with (go_at_call 24; refine HC.mono ?_; rintro e v2 ⟨rfl, ⟨D, N, h1, h2, h3⟩, g2⟩)
        have hR2 := hR.grow g2
        have hno : ¬ d 10 = true := fun e => by have := hR.o10 e; rw [hnd] at this; cases this
        exact hK.out _ _ ⟨_, _, _, _, _, _, _, _, _, _, rfl, { hR2 with v3 := fun _ => ⟨v.heap.size, N, D, rfl, hR.b.size, h1, h2, h3⟩, v8 := fun e => (by obtain ⟨X, z, q1, q2, q3, q4⟩ := hR2.v8 e; exact ⟨X, z, q1, q2, q3, fun e => absurd e hno⟩), o10 := fun _ => rfl }⟩
      · skip
        obtain ⟨u28, u29, u30, u31, u32, u33, u34, u35, u8, u9, rfl, hR⟩ := hI
        have x0 := HX.out v (BD.out.trans (hR.b.mono BD.out.size))
        refine wpOp_step rfl (fun K hK0 => ?_)
        have hK := hid hK0
        clear hK0
        rw [if_pos (by rfl)]
        go_simp
        exact hK.out _ _ ⟨_, _, _, _, _, _, _, _, _, _, rfl, { hR with v4 := fun _ => rfl }⟩
      · skip
        obtain ⟨u28, u29, u30, u31, u32, u33, u34, u35, u8, u9, rfl, hR⟩ := hI
        have x0 := HX.out v (BD.out.trans (hR.b.mono BD.out.size))
        refine wpOp_step rfl (fun K hK0 => ?_)
        have hK := hid hK0
        clear hK0
        rw [if_pos (by rfl)]
        go_simp
        exact hK.out _ _ ⟨_, _, _, _, _, _, _, _, _, _, rfl, { hR with v5 := fun _ => rfl }⟩
      · skip
        obtain ⟨u28, u29, u30, u31, u32, u33, u34, u35, u8, u9, rfl, hR⟩ := hI
        have x0 := HX.out v (BD.out.trans (hR.b.mono BD.out.size))
        obtain rfl := hR.v4 (hd 4 (of_decide_eq_true (by kernel_rfl)))
        obtain rfl := hR.v5 (hd 5 (of_decide_eq_true (by kernel_rfl)))
        have HC := layersUpTo_any a c A.length n v
        refine wpOp_step rfl (fun K hK0 => ?_)
        have hK := hid hK0
        clear hK0
        rw [if_pos (by rfl)]
        go_simp
        go_wp2_with (go_at_call 25; refine HC.mono ?_; rintro e v2 ⟨rfl, hv2⟩)
        have g1 := boxB v (.cells #[.slice a A.length c] 31)
        have s1 : (v.alloc (.cells #[.slice a A.length c] 31)).heap.size = v.heap.size + 1 := heap_size _ _
        have k1 := heap_last v (.cells #[.slice a A.length c] 31)
        have g2 := boxB (v.alloc (.cells #[.slice a A.length c] 31)) (.cells #[.int .i64 n] 3)
        have k2 := heap_last (v.alloc (.cells #[.slice a A.length c] 31)) (.cells #[.int .i64 n] 3)
        rw [s1] at k2
        have k1b := (g2.block _ (kboxS k1)).trans k1
        have hR2 := hR.grow (g1.trans (g2.mono g1.size))
        exact hK.out _ _ ⟨_, _, _, _, _, _, _, _, _, _, rfl, { hR2 with v6 := fun _ => ⟨v.heap.size, rfl, k1b, k2⟩ }⟩
      · skip
        obtain ⟨u28, u29, u30, u31, u32, u33, u34, u35, u8, u9, rfl, hR⟩ := hI
        have x0 := HX.out v (BD.out.trans (hR.b.mono BD.out.size))
        obtain ⟨P, rfl, p1, p2⟩ := hR.v6 (hd 6 (of_decide_eq_true (by kernel_rfl)))
        have HC := HOV.out v P n (hR.b) p1 p2
        refine wpOp_step rfl (fun K hK0 => ?_)
        have hK := hid hK0
        clear hK0
        rw [if_pos (by rfl)]
        go_simp
        go_wp2_with (go_at_call 24; refine HC.mono ?_; rintro e v2 ⟨rfl, ⟨D, N, h1, h2, h3⟩, g2⟩)
        have hR2 := hR.grow g2
        have hno : ¬ d 11 = true := fun e => by have := hR.o11 e; rw [hnd] at this; cases this
        exact hK.out _ _ ⟨_, _, _, _, _, _, _, _, _, _, rfl, { hR2 with v7 := fun _ => ⟨v.heap.size, N, D, rfl, hR.b.size, h1, h2, h3⟩, v9 := fun e => (by obtain ⟨X, z, q1, q2, q3, q4⟩ := hR2.v9 e; exact ⟨X, z, q1, q2, q3, fun e => absurd e hno⟩), o11 := fun _ => rfl }⟩
      · skip
        obtain ⟨u28, u29, u30, u31, u32, u33, u34, u35, u8, u9, rfl, hR⟩ := hI
        have x0 := HX.out v (BD.out.trans (hR.b.mono BD.out.size))
        refine wpOp_step rfl (fun K hK0 => ?_)
        have hK := hid hK0
        clear hK0
        rw [if_pos (by rfl)]
        go_simp
        have g2 := boxB v (.cells #[.map none] 46)
        have k2 := heap_last v (.cells #[.map none] 46)
        have hR2 := hR.grow g2
        have hno : ¬ d 10 = true := fun e => by have := hR.p10 e; rw [hnd] at this; cases this
        have hne : d 9 = true → ∀ Y, u9 = .pointer (some ⟨Y, 0, none⟩) → Y ≠ v.heap.size := fun e Y hY => by obtain ⟨X, z, q1, q2, q3, q4⟩ := hR.v9 e; rw [q1] at hY; cases hY; have := kboxS q3; omega
        exact hK.out _ _ ⟨_, _, _, _, _, _, _, _, _, _, rfl, { hR2 with v8 := fun _ => ⟨v.heap.size, _, rfl, hR.b.size, k2, fun e => absurd e hno⟩, ne := (fun _ e9 e => by obtain ⟨X, z, q1, q2, q3, q4⟩ := hR.v9 e9; exact hne e9 X q1 (by rw [q1] at e; cases e; rfl)), p10 := fun _ => rfl }⟩
      · skip
        obtain ⟨u28, u29, u30, u31, u32, u33, u34, u35, u8, u9, rfl, hR⟩ := hI
        have x0 := HX.out v (BD.out.trans (hR.b.mono BD.out.size))
        refine wpOp_step rfl (fun K hK0 => ?_)
        have hK := hid hK0
        clear hK0
        rw [if_pos (by rfl)]
        go_simp
        have g2 := boxB v (.cells #[.map none] 46)
        have k2 := heap_last v (.cells #[.map none] 46)
        have hR2 := hR.grow g2
        have hno : ¬ d 11 = true := fun e => by have := hR.p11 e; rw [hnd] at this; cases this
        have hne : d 8 = true → ∀ Y, u8 = .pointer (some ⟨Y, 0, none⟩) → Y ≠ v.heap.size := fun e Y hY => by obtain ⟨X, z, q1, q2, q3, q4⟩ := hR.v8 e; rw [q1] at hY; cases hY; have := kboxS q3; omega
        exact hK.out _ _ ⟨_, _, _, _, _, _, _, _, _, _, rfl, { hR2 with v9 := fun _ => ⟨v.heap.size, _, rfl, hR.b.size, k2, fun e => absurd e hno⟩, ne := (fun e8 _ e => by obtain ⟨X, z, q1, q2, q3, q4⟩ := hR.v8 e8; exact hne e8 X q1 (by rw [q1] at e; cases e; rfl)), p11 := fun _ => rfl }⟩
      · skip
        obtain ⟨u28, u29, u30, u31, u32, u33, u34, u35, u8, u9, rfl, hR⟩ := hI
        have x0 := HX.out v (BD.out.trans (hR.b.mono BD.out.size))
        obtain ⟨X, z, rfl, hX0, hX, hz⟩ := hR.v8 (hd 8 (of_decide_eq_true (by kernel_rfl)))
        obtain ⟨M, N, D, rfl, m1, m2, m3, m4⟩ := hR.v3 (hd 3 (of_decide_eq_true (by kernel_rfl)))
        have c0 := box_cell hX 0
        have f0 := box_free hX 0
        have HK3 := keep3 (y := .map (some M)) hX
        refine wpOp_step rfl (fun K hK0 => ?_)
        have hK := hid hK0
        clear hK0
        rw [if_pos (by rfl)]
        go_simp
        exact hK.out _ _ ⟨_, _, _, _, _, _, _, _, _, _, rfl, { hR with b := setB hR.b X 0 hX0 _, v2 := (fun e => by obtain ⟨P, q1, q2, q3⟩ := hR.v2 e; exact ⟨P, q1, HK3.1 q2 (by decide), HK3.1 q3 (by decide)⟩), v3 := (fun e => by obtain ⟨M, N, D, q1, q2, q3, q4, q5⟩ := hR.v3 e; exact ⟨M, N, D, q1, q2, HK3.2.1 q3, q4, q5⟩), v6 := (fun e => by obtain ⟨P, q1, q2, q3⟩ := hR.v6 e; exact ⟨P, q1, HK3.1 q2 (by decide), HK3.1 q3 (by decide)⟩), v7 := (fun e => by obtain ⟨M, N, D, q1, q2, q3, q4, q5⟩ := hR.v7 e; exact ⟨M, N, D, q1, q2, HK3.2.1 q3, q4, q5⟩), v8 := fun _ => ⟨X, _, rfl, hX0, HK3.2.2, fun _ => rfl⟩, v9 := (fun e => by obtain ⟨Y, y, q1, q2, q3, q4⟩ := hR.v9 e; exact ⟨Y, y, q1, q2, (keepB _ _ _ _ _ (fun eY => hR.ne (hd 8 (of_decide_eq_true (by kernel_rfl))) e (by rw [q1, eY]))).trans q3, q4⟩), o10 := fun _ => hd 3 (of_decide_eq_true (by kernel_rfl)), p10 := fun _ => hd 8 (of_decide_eq_true (by kernel_rfl)) }⟩
      · skip
        obtain ⟨u28, u29, u30, u31, u32, u33, u34, u35, u8, u9, rfl, hR⟩ := hI
        have x0 := HX.out v (BD.out.trans (hR.b.mono BD.out.size))
        obtain ⟨X, z, rfl, hX0, hX, hz⟩ := hR.v9 (hd 9 (of_decide_eq_true (by kernel_rfl)))
        obtain ⟨M, N, D, rfl, m1, m2, m3, m4⟩ := hR.v7 (hd 7 (of_decide_eq_true (by kernel_rfl)))
        have c0 := box_cell hX 0
        have f0 := box_free hX 0
        have HK3 := keep3 (y := .map (some M)) hX
        refine wpOp_step rfl (fun K hK0 => ?_)
        have hK := hid hK0
        clear hK0
        rw [if_pos (by rfl)]
        go_simp
        exact hK.out _ _ ⟨_, _, _, _, _, _, _, _, _, _, rfl, { hR with b := setB hR.b X 0 hX0 _, v2 := (fun e => by obtain ⟨P, q1, q2, q3⟩ := hR.v2 e; exact ⟨P, q1, HK3.1 q2 (by decide), HK3.1 q3 (by decide)⟩), v3 := (fun e => by obtain ⟨M, N, D, q1, q2, q3, q4, q5⟩ := hR.v3 e; exact ⟨M, N, D, q1, q2, HK3.2.1 q3, q4, q5⟩), v6 := (fun e => by obtain ⟨P, q1, q2, q3⟩ := hR.v6 e; exact ⟨P, q1, HK3.1 q2 (by decide), HK3.1 q3 (by decide)⟩), v7 := (fun e => by obtain ⟨M, N, D, q1, q2, q3, q4, q5⟩ := hR.v7 e; exact ⟨M, N, D, q1, q2, HK3.2.1 q3, q4, q5⟩), v9 := fun _ => ⟨X, _, rfl, hX0, HK3.2.2, fun _ => rfl⟩, v8 := (fun e => by obtain ⟨Y, y, q1, q2, q3, q4⟩ := hR.v8 e; exact ⟨Y, y, q1, q2, (keepB _ _ _ _ _ (fun eY => hR.ne e (hd 9 (of_decide_eq_true (by kernel_rfl))) (by rw [q1, eY]))).trans q3, q4⟩), o11 := fun _ => hd 7 (of_decide_eq_true (by kernel_rfl)), p11 := fun _ => hd 9 (of_decide_eq_true (by kernel_rfl)) }⟩
  rintro e a6 w6 ⟨rfl, u28, u29, u30, u31, u32, u33, u34, u35, u8, u9, rfl, hR⟩
  obtain rfl := hR.v0 rfl
  obtain rfl := hR.v1 rfl
  obtain rfl := hR.v4 rfl
  obtain rfl := hR.v5 rfl
  obtain ⟨P1, rfl, -, -⟩ := hR.v2 rfl
  obtain ⟨P2, rfl, -, -⟩ := hR.v6 rfl
  obtain ⟨M1, N1, D1, rfl, m1, m2, m3, m4⟩ := hR.v3 rfl
  obtain ⟨M2, N2, D2, rfl, n1, n2, n3, n4⟩ := hR.v7 rfl
  obtain ⟨X8, z8, rfl, hX80, hX8, hz8⟩ := hR.v8 rfl
  obtain ⟨X9, z9, rfl, hX90, hX9, hz9⟩ := hR.v9 rfl
  obtain rfl := hz8 rfl
  obtain rfl := hz9 rfl
  have HB6 : Hid (Below w.heap.size w w6) := HU.out _ (B3.out.drew.trans (hR.b.mono (Below.drew B3.out).size))
  have hb6 := HB6.out.size
  have hM1 := m2.lt
  have hM2 := n2.lt
  have hX8l := kboxS hX8
  have hX9l := kboxS hX9
  obtain ⟨L2, -, -, -, hs2, hl2⟩ := keys16 n4 n2 (fun x hx => ku_range HGK.out n x hx)
  have hsz2 : Maps.size D2 ≤ 16 := by omega
  have x8 : w6.cell? ⟨X8, 0, none⟩ = some (.map (some M1)) := box_cell hX8 0
  have HCL : Hid (∀ m', CallsIn Fence.wide m' Try.prog 26 #[.map (some M1)] w6 fun e w' => e = .returned (.map (some w6.heap.size)) ∧ w'.ownsMap Try.prog 3 keptE w6.heap.size N1 D1 ∧ w'.ownsMap Try.prog 3 keptE M1 N1 D1 ∧ Below w6.heap.size w6 w') := fun m' => callsIn_wide.2 (cloneMK M1 N1 D1 w6 m2)
  have HT1 := hid m4
  have HT2 := hid n4
  have HO2 := hid n2
  have HX8 := hid hX8
  have HX9 := hid hX9
  clear m2 n2 m4 n4 hX8 hX9 hz8 hz9 x0 hR HOV HX B0 B1 B2 B3
  gi_wp2_with (gi_at_call 26; refine (HCL.out _).mono ?_; rintro e w7 ⟨rfl, c1, c2, g7⟩; have x9 : w7.cell? ⟨X9, 0, none⟩ = some (.map (some M2)) := box_cell ((g7.block _ hX9l).trans HX9.out) 0)
  have HC1 := hid c1
  have HC2 := hid c2
  have G7 := hid g7
  have h7 := c1.lt
  have HO27 := hid (ownsMap_sameK HO2.out (g7.block M2 hM2))
  clear c1 c2 g7 HCL x8
  have HCP : Hid (∀ m', CallsIn Fence.wide m' Try.prog 27 #[.map (some w6.heap.size), .map (some M2)] w7 fun e w' => e = .returned (.tuple #[]) ∧ (∃ D : DataW Unit, w'.ownsMap Try.prog 3 keptE w6.heap.size (N1 + Maps.size D2) D ∧ Merged D D1 D2 (fun _ => false)) ∧ w'.ownsMap Try.prog 3 keptE M2 N2 D2 ∧ w7.grownBy w' (some w6.heap.size)) := fun m' => callsIn_wide.2 (copyMK w6.heap.size M2 N1 N2 D1 D2 w7 HC1.out HO27.out (by omega) (by unfold maxLen; omega))
  gi_wp2_with (gi_at_call 27; refine (HCP.out _).mono ?_; rintro e w8 ⟨rfl, ⟨D, d1, hM⟩, d2, g8⟩)
  have hs8 := g8.size
  have hb7 := G7.out.size
  have HM := hid hM
  have HD8 := hid d1
  have HO8 := hid (ownsMap_sameK HC2.out (g8.block M1 (by omega) (fun e => by cases e; omega)))
  have HO82 := hid d2
  have HE8 : Hid (w8.heap[X8]? = some (.cells #[.map (some M1)] 46 (0, 0))) := (g8.block X8 (by omega) (fun e => by cases e; omega)).trans ((G7.out.block X8 hX8l).trans HX8.out)
  have HE9 : Hid (w8.heap[X9]? = some (.cells #[.map (some M2)] 46 (0, 0))) := (g8.block X9 (by omega) (fun e => by cases e; omega)).trans ((G7.out.block X9 hX9l).trans HX9.out)
  have B8 : Hid (Below w.heap.size w w8) := (HB6.out.trans (G7.out.mono hb6)).trans (below_of_grown g8 (by omega) (fun k e => by cases e; omega))
  obtain ⟨TD, hTD⟩ : ∃ TD, TellsK D TD (fun x => KU A m x ∨ KU A n x) := ⟨_, tellsK_merge HT1.out HT2.out hM d1.isMap⟩
  have HT := hid hTD
  clear hTD
  obtain ⟨L, hL1, hL2, hL3, hL4, hL5⟩ := keys16 HT.out d1 (fun x hx => hx.elim (fun h => ku_range HGK.out m x h) (fun h => ku_range HGK.out n x h))
  have HLs := hid hL1
  have HLk := hid hL3
  have HLr : Hid (∀ x : Int, has D (.int .i64 x) = true → 0 ≤ x ∧ x ≤ 15) := fun x hx => by
    rcases (HT.out.2 x).1 hx with h | h
    · have := ku_range HGK.out m x h; omega
    · have := ku_range HGK.out n x h; omega
  have HL1 : Hid (∀ x ∈ L, 0 ≤ x ∧ x < 16) := fun x hx => by
    rcases (hL2 x).1 hx with h | h
    · exact ku_range HGK.out m x h
    · exact ku_range HGK.out n x h
  have HL2 : Hid (∀ x, ¬ TU A m x = TU A n x → x ∈ L) := fun x hx => by
    refine (hL2 x).2 (Classical.byContradiction fun hno => hx ?_)
    have h1 : has D1 (.int .i64 x) ≠ true := fun e => hno (Or.inl ((HT1.out.2 x).1 e))
    have h2 : has D2 (.int .i64 x) ≠ true := fun e => hno (Or.inr ((HT2.out.2 x).1 e))
    rcases HT1.out.1.2 x with ⟨e, _⟩ | ⟨_, e1⟩
    · exact absurd e h1
    rcases HT2.out.1.2 x with ⟨e, _⟩ | ⟨_, e2⟩
    · exact absurd e h2
    rw [e1, e2]
  have HTS : Hid (∀ l v, Below w8.heap.size w8 v → ∀ x, 0 ≤ x ∧ x ≤ 15 → ∀ m', CallsIn (Fence.wide.inRound l) m' Try.prog 29 #[.map (some M1), .int .i64 x] v fun e w' => e = .returned (.string (TU A m x)) ∧ Below v.heap.size v w') := fun l v g x hx m' => CallsIn.inRound l (callsIn_wide.2 (dataOf_any M1 N1 D1 (TU A m) x v hx (ownsMap_sameK HO8.out (g.block M1 HO8.out.lt)) HT1.out.1))
  have HTT : Hid (∀ l v, Below w8.heap.size w8 v → ∀ x, 0 ≤ x ∧ x ≤ 15 → ∀ m', CallsIn (Fence.wide.inRound l) m' Try.prog 29 #[.map (some M2), .int .i64 x] v fun e w' => e = .returned (.string (TU A n x)) ∧ Below v.heap.size v w') := fun l v g x hx m' => CallsIn.inRound l (callsIn_wide.2 (dataOf_any M2 N2 D2 (TU A n) x v hx (ownsMap_sameK HO82.out (g.block M2 HO82.out.lt)) HT2.out.1))
  have hX8m : X8 < w8.heap.size := by omega
  have hX9m : X9 < w8.heap.size := by omega
  have hM8 : w6.heap.size < w8.heap.size := by omega
  have hb8 : w.heap.size ≤ w8.heap.size := by omega
  have hsz : Maps.size D ≤ 16 := by omega
  clear hM d1 d2 g8 hL1 hL2 hL3 hL4 hL5 HT1 HT2 HO2 HX8 HX9 HC1 HC2 G7 HO27 HCP HB6 HM HO8 HO82 x9 hs2 hl2 hsz2 hs8 hb7 hM1 hM2 hX8l hX9l hX80 hX90 m1 n1 m3 n3 h7 hb6 L2
  have HIO : Hid (∀ v m, CallsIn Fence.wide m Try.prog 28 #[.map (some w6.heap.size)] v fun e w' => e = .returned (.func (.func 49) #[] #[.pointer (some ⟨v.heap.size, 0, none⟩)]) ∧ w' = v.alloc (.cells #[.map (some w6.heap.size)] 46)) := fun v m => callsIn_wide.2 (inOrder_any w6.heap.size v)
  gi_wp2_with (gi_at_call 28; refine (HIO.out _ _).mono ?_; rintro e w9 ⟨rfl, hw9⟩)
  have s1 : (w8.alloc (.cells #[.slice none 0 0] 26)).heap.size = w8.heap.size + 1 := heap_size _ _
  have k1 := heap_last w8 (.cells #[.slice none 0 0] 26)
  have b1 := boxB w8 (.cells #[.slice none 0 0] 26)
  have b2 := boxB (w8.alloc (.cells #[.slice none 0 0] 26)) (.cells #[.map (some w6.heap.size)] 46)
  have k2 := heap_last (w8.alloc (.cells #[.slice none 0 0] 26)) (.cells #[.map (some w6.heap.size)] 46)
  have s2 : w9.heap.size = w8.heap.size + 2 := by rw [hw9, heap_size, s1]
  rw [← hw9] at b2 k2
  rw [s1] at k2
  have HZ9 : Hid (w9.heap[w8.heap.size]? = some (.cells #[.slice none 0 0] 26 (0, 0))) := (b2.block _ (by omega)).trans k1
  have HB9 : Hid (Below w8.heap.size w8 w9) := b1.trans (b2.mono b1.size)
  have HM9 := hid k2
  have HCz : Hid (Cz w8 [] (.slice none 0 0) w9) := ⟨HZ9.out, World.ownsRow_nil _ _ _ _, HB9.out, by omega⟩
  have HNR : Hid (∀ k, ¬ rowIn w9 w8.heap.size k) := fun k hr => by have := row_box1 HZ9.out hr; cases this
  rw [← hw9]
  clear s1 k1 b1 b2 k2 hw9 HIO
  refine wpIn_rangeFunc_ownG hro (by omega) (gf := 49) (lb := #[.pointer (some ⟨w8.heap.size + 1, 0, none⟩)]) rfl trivial (enters_of Try.func49 (by kernel_rfl) rfl)
    (inOrdW_stops (6 - 1) (by omega) (w8.heap.size + 1) w6.heap.size (N1 + Maps.size D2) w8.heap.size w8.heap.size 16 D _ w9 (box_cell HM9.out 0) (ownsMap_sameK HD8.out (HB9.out.block _ hM8)) HT.out.1 hsz (by omega) hM8 (by omega) (by omega) (by omega) HNR.out)
    KpZ.trans (KpZ.putObj (by omega) (by omega)) (Below.refl _ _) (fun _ => rfl)
    (fun (pre : List (KeyOf D)) W => ∃ v, Cz w8 (pkK (TU A m) (TU A n) pre) v W)
    (fun _ _ _ => False) ?hI (fun _ _ _ _ _ hs _ _ => hs) ⟨_, HCz.out⟩
    (fun x : KeyOf D => { tmps := #[.agg #[.slice a A.length c], .int .i64 m, .int .i64 n, .pointer (some ⟨w.heap.size, 0, none⟩), undef, undef, .slice none 0 0, .bool false, .pointer (some ⟨X8, 0, none⟩), .pointer (some ⟨X9, 0, none⟩), .map (some w6.heap.size), .pointer (some ⟨w8.heap.size, 0, none⟩), .int .i64 x.1, .agg #[.slice a A.length c], .bool true, .bool false, .bool false, .agg #[.slice a A.length c], .int .i64 m, .bool true, .bool false, .bool false, .bool false, .agg #[.slice a A.length c], .int .i64 n, .bool true, .bool false, .bool false, .agg #[.slice a A.length c], .int .i64 m, .func (.func 47) #[] #[.pointer (some ⟨P1, 0, none⟩), .pointer (some ⟨P1 + 1, 0, none⟩)], .map (some M1), .agg #[.slice a A.length c], .int .i64 n, .func (.func 47) #[] #[.pointer (some ⟨P2, 0, none⟩), .pointer (some ⟨P2 + 1, 0, none⟩)], .map (some M2), .map (some M1), .map (some w6.heap.size), .map (some w6.heap.size), .map (some M2), .tuple #[], .map (some w6.heap.size), .func (.func 49) #[] #[.pointer (some ⟨w8.heap.size + 1, 0, none⟩)], .int .i64 x.1, .string (TD x.1), undef, undef, undef, undef, undef, undef, undef, undef, undef, undef, undef, undef], defers := [] })
    ?assign ?body ?done ?stop
  case hI =>
    rintro pre X Y row ⟨v, h⟩ hg hr
    exact ⟨v, h.grown hg (fun r e => ⟨by have := (hr r e).1; omega, (hr r e).2⟩)⟩
  case assign =>
    intro l x W K hK
    gi_wp2
    exact hK
  case stop =>
    rintro D' c pre W _ _ h _
    exact h.elim
  case done =>
    rintro D' ys W9 hD hys ⟨v, h⟩ hK
    have hU : unl (TU A m) (TU A n) 16 = chgV A m n := by
      have f1 : TU A m = atF A (fndK A m) := funext fun x => by show atL A x (up A m) = atL A x (fndK A m + 1); rw [up_fnd HGK.out HFM.out]
      have f2 : TU A n = atF A (fndK A n) := funext fun x => by show atL A x (up A n) = atL A x (fndK A n + 1); rw [up_fnd HGK.out HFN.out]
      rw [f1, f2, e1.out.1]
    have hpk : pkK (TU A m) (TU A n) ys = chgV A m n := by unfold pkK; rw [hys.trans HLk.out, unl_of HLs.out HL1.out HL2.out, hU]
    rw [hpk] at h
    have z0 : W9.cell? ⟨w8.heap.size, 0, none⟩ = some v := box_cell h.z 0
    have H := hid h
    have HD' := hid hK
    clear h hK hys hU
    gi_wp2
    refine ⟨by simp, .inl ⟨_, _, rfl, run_takeDeferred HD'.out, ?_⟩⟩
    refine ⟨_, by simp [results, Try.results8, go_sem]; rfl, ?_⟩
    rw [e1.out.2]
    exact LOut.yes (AL.mono (ownsRow_putObj H.out.a _ HD'.out rfl) (by omega)) ((B8.out.trans (H.out.bel.mono hb8)).trans (belowK_b (w := w9) (by omega) W9 D' _ _ (by omega) HD'.out rfl rfl))
  case body =>
    rintro l pre x W8 ⟨v, h⟩ hlt
    have hlen : (pkK (TU A m) (TU A n) pre).length + 1 ≤ 9000 := by have := pkK_len (TU A m) (TU A n) pre; omega
    have H := hid h
    have BD := hid (Below.drew (Below.refl W8.heap.size W8))
    have HG9 : Hid (∀ v, Below W8.drew.heap.size W8.drew v → Below w8.heap.size w8 v) := fun v g => H.out.bel.trans ((BD.out.trans (g.mono BD.out.size)).mono H.out.bel.size)
    clear h
    gi_upto_region 9 with fail
    refine wpIn_mono (Q := fun e a' W' => e = .normal ∧ a' = { tmps := #[.agg #[.slice a A.length c], .int .i64 m, .int .i64 n, .pointer (some ⟨w.heap.size, 0, none⟩), undef, undef, .slice none 0 0, .bool false, .pointer (some ⟨X8, 0, none⟩), .pointer (some ⟨X9, 0, none⟩), .map (some w6.heap.size), .pointer (some ⟨w8.heap.size, 0, none⟩), .int .i64 x.1, .agg #[.slice a A.length c], .bool true, .bool false, .bool false, .agg #[.slice a A.length c], .int .i64 m, .bool true, .bool false, .bool false, .bool false, .agg #[.slice a A.length c], .int .i64 n, .bool true, .bool false, .bool false, .agg #[.slice a A.length c], .int .i64 m, .func (.func 47) #[] #[.pointer (some ⟨P1, 0, none⟩), .pointer (some ⟨P1 + 1, 0, none⟩)], .map (some M1), .agg #[.slice a A.length c], .int .i64 n, .func (.func 47) #[] #[.pointer (some ⟨P2, 0, none⟩), .pointer (some ⟨P2 + 1, 0, none⟩)], .map (some M2), .map (some M1), .map (some w6.heap.size), .map (some w6.heap.size), .map (some M2), .tuple #[], .map (some w6.heap.size), .func (.func 49) #[] #[.pointer (some ⟨w8.heap.size + 1, 0, none⟩)], .int .i64 x.1, .string (TD x.1), .map (some M1), .int .i64 x.1, .string (TU A m x.1), .map (some M2), .int .i64 x.1, .string (TU A n x.1), .bool (!((TU A m x.1).toList == (TU A n x.1).toList)), undef, undef, undef, undef, undef], defers := [] } ∧ Below W8.drew.heap.size W8.drew W') ?_ ?_
    · refine wpIn_region_inv (I := fun d a' v => ∃ u45 u46 u47 u48 u49 u50 u51 : Value, a' = { tmps := #[.agg #[.slice a A.length c], .int .i64 m, .int .i64 n, .pointer (some ⟨w.heap.size, 0, none⟩), undef, undef, .slice none 0 0, .bool false, .pointer (some ⟨X8, 0, none⟩), .pointer (some ⟨X9, 0, none⟩), .map (some w6.heap.size), .pointer (some ⟨w8.heap.size, 0, none⟩), .int .i64 x.1, .agg #[.slice a A.length c], .bool true, .bool false, .bool false, .agg #[.slice a A.length c], .int .i64 m, .bool true, .bool false, .bool false, .bool false, .agg #[.slice a A.length c], .int .i64 n, .bool true, .bool false, .bool false, .agg #[.slice a A.length c], .int .i64 m, .func (.func 47) #[] #[.pointer (some ⟨P1, 0, none⟩), .pointer (some ⟨P1 + 1, 0, none⟩)], .map (some M1), .agg #[.slice a A.length c], .int .i64 n, .func (.func 47) #[] #[.pointer (some ⟨P2, 0, none⟩), .pointer (some ⟨P2 + 1, 0, none⟩)], .map (some M2), .map (some M1), .map (some w6.heap.size), .map (some w6.heap.size), .map (some M2), .tuple #[], .map (some w6.heap.size), .func (.func 49) #[] #[.pointer (some ⟨w8.heap.size + 1, 0, none⟩)], .int .i64 x.1, .string (TD x.1), u45, u46, u47, u48, u49, u50, u51, undef, undef, undef, undef, undef], defers := [] } ∧ R9 M1 M2 x.1 (TU A m x.1) (TU A n x.1) W8.drew d u45 u46 u47 u48 u49 u50 u51 v) hmix (by kernel_rfl) ?h0 ?hs ?he
      case h0 =>
        refine ⟨undef, undef, undef, undef, undef, undef, undef, rfl, ?_⟩
        constructor
        · exact Below.refl _ _
        all_goals (intro e; cases e)
      case he =>
        rintro d a' v hall ⟨u45, u46, u47, u48, u49, u50, u51, rfl, hR⟩
        have ed : ∀ k, k < 7 → d k = true := fun k hk => hall k hk
        obtain rfl := hR.v0 (ed 0 (by omega))
        obtain rfl := hR.v1 (ed 1 (by omega))
        obtain rfl := hR.v2 (ed 2 (by omega))
        obtain rfl := hR.v3 (ed 3 (by omega))
        obtain rfl := hR.v4 (ed 4 (by omega))
        obtain rfl := hR.v5 (ed 5 (by omega))
        obtain rfl := hR.v6 (ed 6 (by omega))
        exact ⟨rfl, rfl, hR.b⟩
      case hs =>
        intro j hj d a' v hd hnd hI
        have hj7 : j < 7 := hj
        clear hj
        obtain (rfl | rfl | rfl | rfl | rfl | rfl | rfl) : j = 0 ∨ j = 1 ∨ j = 2 ∨ j = 3 ∨ j = 4 ∨ j = 5 ∨ j = 6 := by omega
        · skip
          obtain ⟨u45, u46, u47, u48, u49, u50, u51, rfl, hR⟩ := hI
          have g9 := HG9.out v hR.b
          have x8 : v.cell? ⟨X8, 0, none⟩ = some (.map (some M1)) := box_cell ((g9.block _ hX8m).trans HE8.out) 0
          have x9 : v.cell? ⟨X9, 0, none⟩ = some (.map (some M2)) := box_cell ((g9.block _ hX9m).trans HE9.out) 0
          refine wpOpIn_step rfl (fun K hK0 => ?_)
          have hK := hid hK0
          clear hK0
          rw [if_pos (by rfl)]
          go_simp
          exact hK.out _ _ ⟨_, _, _, _, _, _, _, rfl, { hR with v0 := fun _ => rfl }⟩
        · skip
          obtain ⟨u45, u46, u47, u48, u49, u50, u51, rfl, hR⟩ := hI
          have g9 := HG9.out v hR.b
          have x8 : v.cell? ⟨X8, 0, none⟩ = some (.map (some M1)) := box_cell ((g9.block _ hX8m).trans HE8.out) 0
          have x9 : v.cell? ⟨X9, 0, none⟩ = some (.map (some M2)) := box_cell ((g9.block _ hX9m).trans HE9.out) 0
          refine wpOpIn_step rfl (fun K hK0 => ?_)
          have hK := hid hK0
          clear hK0
          rw [if_pos (by rfl)]
          go_simp
          exact hK.out _ _ ⟨_, _, _, _, _, _, _, rfl, { hR with v1 := fun _ => rfl }⟩
        · skip
          obtain ⟨u45, u46, u47, u48, u49, u50, u51, rfl, hR⟩ := hI
          have g9 := HG9.out v hR.b
          have x8 : v.cell? ⟨X8, 0, none⟩ = some (.map (some M1)) := box_cell ((g9.block _ hX8m).trans HE8.out) 0
          have x9 : v.cell? ⟨X9, 0, none⟩ = some (.map (some M2)) := box_cell ((g9.block _ hX9m).trans HE9.out) 0
          obtain rfl := hR.v0 (hd 0 (of_decide_eq_true (by kernel_rfl)))
          obtain rfl := hR.v1 (hd 1 (of_decide_eq_true (by kernel_rfl)))
          refine wpOpIn_step rfl (fun K hK0 => ?_)
          have hK := hid hK0
          clear hK0
          rw [if_pos (by rfl)]
          go_simp
          gi_wp2_with (gi_at_call 29; refine (HTS.out l _ g9 x.1 (HLr.out x.1 x.2) _).mono ?_; rintro e v2 ⟨rfl, g2⟩)
          have hR2 := hR.grow g2
          exact hK.out _ _ ⟨_, _, _, _, _, _, _, rfl, { hR2 with v2 := fun _ => rfl }⟩
        · skip
          obtain ⟨u45, u46, u47, u48, u49, u50, u51, rfl, hR⟩ := hI
          have g9 := HG9.out v hR.b
          have x8 : v.cell? ⟨X8, 0, none⟩ = some (.map (some M1)) := box_cell ((g9.block _ hX8m).trans HE8.out) 0
          have x9 : v.cell? ⟨X9, 0, none⟩ = some (.map (some M2)) := box_cell ((g9.block _ hX9m).trans HE9.out) 0
          refine wpOpIn_step rfl (fun K hK0 => ?_)
          have hK := hid hK0
          clear hK0
          rw [if_pos (by rfl)]
          go_simp
          exact hK.out _ _ ⟨_, _, _, _, _, _, _, rfl, { hR with v3 := fun _ => rfl }⟩
        · skip
          obtain ⟨u45, u46, u47, u48, u49, u50, u51, rfl, hR⟩ := hI
          have g9 := HG9.out v hR.b
          have x8 : v.cell? ⟨X8, 0, none⟩ = some (.map (some M1)) := box_cell ((g9.block _ hX8m).trans HE8.out) 0
          have x9 : v.cell? ⟨X9, 0, none⟩ = some (.map (some M2)) := box_cell ((g9.block _ hX9m).trans HE9.out) 0
          refine wpOpIn_step rfl (fun K hK0 => ?_)
          have hK := hid hK0
          clear hK0
          rw [if_pos (by rfl)]
          go_simp
          exact hK.out _ _ ⟨_, _, _, _, _, _, _, rfl, { hR with v4 := fun _ => rfl }⟩
        · skip
          obtain ⟨u45, u46, u47, u48, u49, u50, u51, rfl, hR⟩ := hI
          have g9 := HG9.out v hR.b
          have x8 : v.cell? ⟨X8, 0, none⟩ = some (.map (some M1)) := box_cell ((g9.block _ hX8m).trans HE8.out) 0
          have x9 : v.cell? ⟨X9, 0, none⟩ = some (.map (some M2)) := box_cell ((g9.block _ hX9m).trans HE9.out) 0
          obtain rfl := hR.v3 (hd 3 (of_decide_eq_true (by kernel_rfl)))
          obtain rfl := hR.v4 (hd 4 (of_decide_eq_true (by kernel_rfl)))
          refine wpOpIn_step rfl (fun K hK0 => ?_)
          have hK := hid hK0
          clear hK0
          rw [if_pos (by rfl)]
          go_simp
          gi_wp2_with (gi_at_call 29; refine (HTT.out l _ g9 x.1 (HLr.out x.1 x.2) _).mono ?_; rintro e v2 ⟨rfl, g2⟩)
          have hR2 := hR.grow g2
          exact hK.out _ _ ⟨_, _, _, _, _, _, _, rfl, { hR2 with v5 := fun _ => rfl }⟩
        · skip
          obtain ⟨u45, u46, u47, u48, u49, u50, u51, rfl, hR⟩ := hI
          have g9 := HG9.out v hR.b
          have x8 : v.cell? ⟨X8, 0, none⟩ = some (.map (some M1)) := box_cell ((g9.block _ hX8m).trans HE8.out) 0
          have x9 : v.cell? ⟨X9, 0, none⟩ = some (.map (some M2)) := box_cell ((g9.block _ hX9m).trans HE9.out) 0
          obtain rfl := hR.v2 (hd 2 (of_decide_eq_true (by kernel_rfl)))
          obtain rfl := hR.v5 (hd 5 (of_decide_eq_true (by kernel_rfl)))
          refine wpOpIn_step rfl (fun K hK0 => ?_)
          have hK := hid hK0
          clear hK0
          rw [if_pos (by rfl)]
          go_simp
          exact hK.out _ _ ⟨_, _, _, _, _, _, _, rfl, { hR with v6 := fun _ => rfl }⟩
    rintro e a' W9 ⟨rfl, rfl, g9⟩
    have gall := BD.out.trans (g9.mono BD.out.size)
    have hW8 := H.out.sz
    have KPA := hid (KpZ.of_below (n₀ := w8.heap.size) (Z := w8.heap.size) gall (by omega) (by omega))
    have KOA := hid (Below.others gall)
    have H9 := hid (H.out.on gall)
    clear g9 gall HTS HTT HE8 HE9 HG9 H BD HD8 HM9 HZ9 HCz HNR HB9
    by_cases hx : TU A m x.1 = TU A n x.1
    · have ef := hid (pkK_yes (T := TU A m) (U := TU A n) pre x hx)
      have hb : (!((TU A m x.1).toList == (TU A n x.1).toList)) = false := by rw [hx]; simp
      rw [hb]
      clear hb hx
      gi_wp2
      exact ⟨KOA.out.from _, KPA.out, v, by rw [ef.out]; exact H9.out⟩
    · have ef := hid (pkK_no (T := TU A m) (U := TU A n) pre x hx)
      have hb : (!((TU A m x.1).toList == (TU A n x.1).toList)) = true := by rw [ba_ne hx]; rfl
      rw [hb]
      clear hb hx
      obtain ⟨v', W1, rn, cc, ff, kp, ko, h2⟩ := H9.out.push x.1 hlen
      obtain ⟨a1, c1, e1'⟩ := rw_form h2.a
      subst e1'
      obtain ⟨a0, c0, e0⟩ := rw_form H9.out.a
      subst e0
      have hl1 : (pkK (TU A m) (TU A n) pre ++ [x.1]).length = (pkK (TU A m) (TU A n) pre).length + 1 := by simp
      rw [hl1] at rn kp ko h2
      have z0 : W9.cell? ⟨w8.heap.size, 0, none⟩ = some (.slice a0 (pkK (TU A m) (TU A n) pre).length c0) := box_cell H9.out.z 0
      have KP1 := hid kp
      have KO1 := hid ko
      have H2 := hid h2
      clear kp ko h2 hl1
      gi_wp2_with (gi_at_builtin; refine wpListIn_append_runK rfl _ _ 26 rfl _ _ rfl rfl _ _ rn ?_)
      exact ⟨(KOA.out.trans KO1.out).from _, KPA.out.trans KP1.out, _, by rw [ef.out]; exact H2.out⟩
end Go.Proofs.Ytmbkdollakbigaa
