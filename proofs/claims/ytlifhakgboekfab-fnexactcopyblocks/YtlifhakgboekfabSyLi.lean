/- The program's LastBlocks. -/
import Derived.Test.YtlifhakgboekfabSyLs
import Derived.Test.YtlifhakgboekfabKZ
import Derived.Deep.DeepCutAuto
namespace Go.Proofs.Ytlifhakgboekfab
set_option maxRecDepth 100000
open Go Go.ChangeShapes Go.WideShapes Go.ChangeAt Go.RowKit
theorem fnd_last {A : List Ly} (h : GoodK A) : fndK A (lastM A) + 1 = A.length := by
  have h0 := h.1
  have e : fndK A (lastM A) = A.length - 1 := by
    refine fndK_at (by omega) (lastM_at (by omega)).symm (fun j g hj => ?_)
    have := rise_lt h.2.2 j (A.length - 1) hj (by omega)
    rw [lastM_at (by omega)]
    omega
  omega
theorem alloc2 (w : World) (a b : Obj) : ((w.alloc a).alloc b).heap[w.heap.size]? = some a ∧ ((w.alloc a).alloc b).heap[w.heap.size + 1]? = some b := ⟨heap_mid2 _ _ _, heap_last2 _ _ _⟩
set_option maxHeartbeats 8000000 in
theorem lastAll_any (a : Option Addr) (c : Nat) (A : List Ly) (w : World) (hA : Mr a c A w) (hg : GoodK A) :
    Calls Try.prog 45 #[.agg #[.slice a A.length c]] w fun e w' => e = .returned (.agg (arrS (fun k : Nat => atL A (k : Int) A.length) 16)) ∧ Below w.heap.size w w' := by
  have b0 : Below w.heap.size w ((w.alloc (.cells #[.slice a A.length c] 48)).alloc (.cells #[.string ⟨#[]⟩, .string ⟨#[]⟩, .string ⟨#[]⟩, .string ⟨#[]⟩, .string ⟨#[]⟩, .string ⟨#[]⟩, .string ⟨#[]⟩, .string ⟨#[]⟩, .string ⟨#[]⟩, .string ⟨#[]⟩, .string ⟨#[]⟩, .string ⟨#[]⟩, .string ⟨#[]⟩, .string ⟨#[]⟩, .string ⟨#[]⟩, .string ⟨#[]⟩] 72)) := (boxB _ _).trans ((boxB _ _).mono (boxB _ _).size)
  obtain ⟨k0, k1⟩ := alloc2 w (.cells #[.slice a A.length c] 48) (.cells #[.string ⟨#[]⟩, .string ⟨#[]⟩, .string ⟨#[]⟩, .string ⟨#[]⟩, .string ⟨#[]⟩, .string ⟨#[]⟩, .string ⟨#[]⟩, .string ⟨#[]⟩, .string ⟨#[]⟩, .string ⟨#[]⟩, .string ⟨#[]⟩, .string ⟨#[]⟩, .string ⟨#[]⟩, .string ⟨#[]⟩, .string ⟨#[]⟩, .string ⟨#[]⟩] 72)
  generalize hW : (w.alloc (.cells #[.slice a A.length c] 48)).alloc (.cells #[.string ⟨#[]⟩, .string ⟨#[]⟩, .string ⟨#[]⟩, .string ⟨#[]⟩, .string ⟨#[]⟩, .string ⟨#[]⟩, .string ⟨#[]⟩, .string ⟨#[]⟩, .string ⟨#[]⟩, .string ⟨#[]⟩, .string ⟨#[]⟩, .string ⟨#[]⟩, .string ⟨#[]⟩, .string ⟨#[]⟩, .string ⟨#[]⟩, .string ⟨#[]⟩] 72) = W at *
  have HX : Hid (∀ v, Below W.heap.size W v → v.cell? ⟨w.heap.size, 0, none⟩ = some (.slice a A.length c)) := fun v g => box_cell ((g.block _ (kboxS k0)).trans k0) 0
  have HK1 : Hid (∀ v, Below W.heap.size W v → v.heap[w.heap.size + 1]? = some (.cells #[.string ⟨#[]⟩, .string ⟨#[]⟩, .string ⟨#[]⟩, .string ⟨#[]⟩, .string ⟨#[]⟩, .string ⟨#[]⟩, .string ⟨#[]⟩, .string ⟨#[]⟩, .string ⟨#[]⟩, .string ⟨#[]⟩, .string ⟨#[]⟩, .string ⟨#[]⟩, .string ⟨#[]⟩, .string ⟨#[]⟩, .string ⟨#[]⟩, .string ⟨#[]⟩] 72 (0, 0))) := fun v g => (g.block _ (kboxS k1)).trans k1
  have HU : Hid (∀ v, Below W.heap.size W v → Below w.heap.size w v) := fun v g => b0.trans (g.mono b0.size)
  have HA : Hid (∀ v, Below W.heap.size W v → Mr a c A v) := fun v g => hA.on (HU.out v g)
  have BD : Hid (Below W.heap.size W W.drew) := (Below.refl _ _).drew
  have HLM : Hid (∀ v, Below W.heap.size W v → Calls Try.prog 51 #[.agg #[.slice a A.length c]] v fun e w' => e = .returned (.int .i64 (lastM A)) ∧ Below v.heap.size v w') := fun v g => lastMark_any a c A v (by have := hg.1; omega) (by have := hg.2.1; omega) (HA.out v g).ys
  have hfl := fnd_last hg
  have HAL : Hid (∀ v, Below W.heap.size W v → Calls Try.prog 50 #[.agg #[.slice a A.length c], .int .i64 (lastM A)] v fun e w' => e = .returned (.agg (arrS (fun k : Nat => atL A (k : Int) A.length) 16)) ∧ Below v.heap.size v w') := fun v g => by
    have := (HA.out v g).all hg (lastM A) (by omega)
    have e : atM A (lastM A) = fun k : Nat => atL A (k : Int) A.length := by
      funext k
      unfold atM
      rw [hfl]
    rwa [e] at this
  generalize (fun k : Nat => atL A (k : Int) A.length) = T at *
  rw [arrS_all] at HAL ⊢
  clear hA k0 k1 b0 HA hg hfl
  generalize lastM A = lm at *
  go_enter Try.func45, Try.ntmps45
  go_upto_region 1 with fail
  clear hW
  have hT0 := HX.out _ BD.out
  refine wp_region_L (fun v : World => v.cell? ⟨w.heap.size, 0, none⟩ = some (.slice a A.length c)) 5 (by kernel_rfl) ?_
  generalize W.drew = Wd at *
  have hHeld := hT0
  refine wpAnyL_take (i := 0) (v := .agg #[.slice a A.length c]) (C := [0, 4, 5]) rfl (by kernel_rfl) (fun _ _ _ h => h) (Or.inl ⟨by rfl, fun u hu => by have hu2 := hu; go_simp⟩) hHeld ?_
  dsimp only [Act.put]
  refine wpAnyL_take (i := 1) (v := .pointer (some ⟨w.heap.size, 0, none⟩)) (C := [1, 2, 3, 4, 5]) rfl (by kernel_rfl) (fun _ _ _ h => h) (Or.inl ⟨by rfl, fun _ _ => by go_simp⟩) hHeld ?_
  dsimp only [Act.put]
  refine wpAnyL_take (i := 2) (v := .agg #[.slice a A.length c]) (C := [2, 3, 4, 5]) rfl (by kernel_rfl) (fun _ _ _ h => h) (Or.inl ⟨by rfl, fun u hu => by have hu2 := hu; go_simp⟩) hHeld ?_
  dsimp only [Act.put]
  refine wpAnyL_one (i := 3) (by kernel_rfl) rfl (fun K hK => ?_)
  rw [if_pos (by rfl)]
  go_simp
  go_wp2_with (go_at_call 51; refine (HLM.out _ BD.out).mono ?_; rintro e w3 ⟨rfl, g3⟩)
  have B3 : Hid (Below W.heap.size W w3) := BD.out.trans (g3.mono BD.out.size)
  clear g3
  have hT3 := HX.out _ B3.out
  refine hK.out _ _ (fun _ => hT3) ?_
  clear hK K hHeld
  have hHeld := hT3
  try dsimp only [Act.put]
  refine wpAnyL_one (i := 4) (by kernel_rfl) rfl (fun K hK => ?_)
  rw [if_pos (by rfl)]
  go_simp
  go_wp2_with (go_at_call 50; refine (HAL.out _ B3.out).mono ?_; rintro e w4 ⟨rfl, g4⟩)
  have B4 : Hid (Below W.heap.size W w4) := B3.out.trans (g4.mono B3.out.size)
  clear g4
  have hT4 := HX.out _ B4.out
  refine hK.out _ _ (fun _ => hT4) ?_
  clear hK K hHeld
  have hHeld := hT4
  try dsimp only [Act.put]
  have h1 := HK1.out _ B4.out
  clear hT0 hT3 hT4
  have d0 : w4.cell? ⟨w.heap.size + 1, 0, none⟩ = some (.string ⟨#[]⟩) := box_cell h1 0
  have d1 : w4.cell? ⟨w.heap.size + 1, 1, none⟩ = some (.string ⟨#[]⟩) := box_cell h1 1
  have d2 : w4.cell? ⟨w.heap.size + 1, 2, none⟩ = some (.string ⟨#[]⟩) := box_cell h1 2
  have d3 : w4.cell? ⟨w.heap.size + 1, 3, none⟩ = some (.string ⟨#[]⟩) := box_cell h1 3
  have d4 : w4.cell? ⟨w.heap.size + 1, 4, none⟩ = some (.string ⟨#[]⟩) := box_cell h1 4
  have d5 : w4.cell? ⟨w.heap.size + 1, 5, none⟩ = some (.string ⟨#[]⟩) := box_cell h1 5
  have d6 : w4.cell? ⟨w.heap.size + 1, 6, none⟩ = some (.string ⟨#[]⟩) := box_cell h1 6
  have d7 : w4.cell? ⟨w.heap.size + 1, 7, none⟩ = some (.string ⟨#[]⟩) := box_cell h1 7
  have d8 : w4.cell? ⟨w.heap.size + 1, 8, none⟩ = some (.string ⟨#[]⟩) := box_cell h1 8
  have d9 : w4.cell? ⟨w.heap.size + 1, 9, none⟩ = some (.string ⟨#[]⟩) := box_cell h1 9
  have d10 : w4.cell? ⟨w.heap.size + 1, 10, none⟩ = some (.string ⟨#[]⟩) := box_cell h1 10
  have d11 : w4.cell? ⟨w.heap.size + 1, 11, none⟩ = some (.string ⟨#[]⟩) := box_cell h1 11
  have d12 : w4.cell? ⟨w.heap.size + 1, 12, none⟩ = some (.string ⟨#[]⟩) := box_cell h1 12
  have d13 : w4.cell? ⟨w.heap.size + 1, 13, none⟩ = some (.string ⟨#[]⟩) := box_cell h1 13
  have d14 : w4.cell? ⟨w.heap.size + 1, 14, none⟩ = some (.string ⟨#[]⟩) := box_cell h1 14
  have d15 : w4.cell? ⟨w.heap.size + 1, 15, none⟩ = some (.string ⟨#[]⟩) := box_cell h1 15
  have f0 : w4.frozen? ⟨w.heap.size + 1, 0, none⟩ = false := box_free h1 0
  have f1 : w4.frozen? ⟨w.heap.size + 1, 1, none⟩ = false := box_free h1 1
  have f2 : w4.frozen? ⟨w.heap.size + 1, 2, none⟩ = false := box_free h1 2
  have f3 : w4.frozen? ⟨w.heap.size + 1, 3, none⟩ = false := box_free h1 3
  have f4 : w4.frozen? ⟨w.heap.size + 1, 4, none⟩ = false := box_free h1 4
  have f5 : w4.frozen? ⟨w.heap.size + 1, 5, none⟩ = false := box_free h1 5
  have f6 : w4.frozen? ⟨w.heap.size + 1, 6, none⟩ = false := box_free h1 6
  have f7 : w4.frozen? ⟨w.heap.size + 1, 7, none⟩ = false := box_free h1 7
  have f8 : w4.frozen? ⟨w.heap.size + 1, 8, none⟩ = false := box_free h1 8
  have f9 : w4.frozen? ⟨w.heap.size + 1, 9, none⟩ = false := box_free h1 9
  have f10 : w4.frozen? ⟨w.heap.size + 1, 10, none⟩ = false := box_free h1 10
  have f11 : w4.frozen? ⟨w.heap.size + 1, 11, none⟩ = false := box_free h1 11
  have f12 : w4.frozen? ⟨w.heap.size + 1, 12, none⟩ = false := box_free h1 12
  have f13 : w4.frozen? ⟨w.heap.size + 1, 13, none⟩ = false := box_free h1 13
  have f14 : w4.frozen? ⟨w.heap.size + 1, 14, none⟩ = false := box_free h1 14
  have f15 : w4.frozen? ⟨w.heap.size + 1, 15, none⟩ = false := box_free h1 15
  have hq : ((((((((((((((((w4.setCell ⟨w.heap.size + 1, 0, none⟩ (.string (T 0))).setCell ⟨w.heap.size + 1, 1, none⟩ (.string (T 1))).setCell ⟨w.heap.size + 1, 2, none⟩ (.string (T 2))).setCell ⟨w.heap.size + 1, 3, none⟩ (.string (T 3))).setCell ⟨w.heap.size + 1, 4, none⟩ (.string (T 4))).setCell ⟨w.heap.size + 1, 5, none⟩ (.string (T 5))).setCell ⟨w.heap.size + 1, 6, none⟩ (.string (T 6))).setCell ⟨w.heap.size + 1, 7, none⟩ (.string (T 7))).setCell ⟨w.heap.size + 1, 8, none⟩ (.string (T 8))).setCell ⟨w.heap.size + 1, 9, none⟩ (.string (T 9))).setCell ⟨w.heap.size + 1, 10, none⟩ (.string (T 10))).setCell ⟨w.heap.size + 1, 11, none⟩ (.string (T 11))).setCell ⟨w.heap.size + 1, 12, none⟩ (.string (T 12))).setCell ⟨w.heap.size + 1, 13, none⟩ (.string (T 13))).setCell ⟨w.heap.size + 1, 14, none⟩ (.string (T 14))).setCell ⟨w.heap.size + 1, 15, none⟩ (.string (T 15))).heap[w.heap.size + 1]? = some (.cells #[.string (T 0), .string (T 1), .string (T 2), .string (T 3), .string (T 4), .string (T 5), .string (T 6), .string (T 7), .string (T 8), .string (T 9), .string (T 10), .string (T 11), .string (T 12), .string (T 13), .string (T 14), .string (T 15)] 72 (0, 0)) := by
    have h := h1
    simpa using (box_set (box_set (box_set (box_set (box_set (box_set (box_set (box_set (box_set (box_set (box_set (box_set (box_set (box_set (box_set (box_set h 0 (.string (T 0))) 1 (.string (T 1))) 2 (.string (T 2))) 3 (.string (T 3))) 4 (.string (T 4))) 5 (.string (T 5))) 6 (.string (T 6))) 7 (.string (T 7))) 8 (.string (T 8))) 9 (.string (T 9))) 10 (.string (T 10))) 11 (.string (T 11))) 12 (.string (T 12))) 13 (.string (T 13))) 14 (.string (T 14))) 15 (.string (T 15)))
  have HBF : Hid (Below w.heap.size w ((((((((((((((((w4.setCell ⟨w.heap.size + 1, 0, none⟩ (.string (T 0))).setCell ⟨w.heap.size + 1, 1, none⟩ (.string (T 1))).setCell ⟨w.heap.size + 1, 2, none⟩ (.string (T 2))).setCell ⟨w.heap.size + 1, 3, none⟩ (.string (T 3))).setCell ⟨w.heap.size + 1, 4, none⟩ (.string (T 4))).setCell ⟨w.heap.size + 1, 5, none⟩ (.string (T 5))).setCell ⟨w.heap.size + 1, 6, none⟩ (.string (T 6))).setCell ⟨w.heap.size + 1, 7, none⟩ (.string (T 7))).setCell ⟨w.heap.size + 1, 8, none⟩ (.string (T 8))).setCell ⟨w.heap.size + 1, 9, none⟩ (.string (T 9))).setCell ⟨w.heap.size + 1, 10, none⟩ (.string (T 10))).setCell ⟨w.heap.size + 1, 11, none⟩ (.string (T 11))).setCell ⟨w.heap.size + 1, 12, none⟩ (.string (T 12))).setCell ⟨w.heap.size + 1, 13, none⟩ (.string (T 13))).setCell ⟨w.heap.size + 1, 14, none⟩ (.string (T 14))).setCell ⟨w.heap.size + 1, 15, none⟩ (.string (T 15)))) := by
    have h := HU.out _ B4.out
    replace h := setB h (w.heap.size + 1) 0 (by omega) (.string (T 0))
    replace h := setB h (w.heap.size + 1) 1 (by omega) (.string (T 1))
    replace h := setB h (w.heap.size + 1) 2 (by omega) (.string (T 2))
    replace h := setB h (w.heap.size + 1) 3 (by omega) (.string (T 3))
    replace h := setB h (w.heap.size + 1) 4 (by omega) (.string (T 4))
    replace h := setB h (w.heap.size + 1) 5 (by omega) (.string (T 5))
    replace h := setB h (w.heap.size + 1) 6 (by omega) (.string (T 6))
    replace h := setB h (w.heap.size + 1) 7 (by omega) (.string (T 7))
    replace h := setB h (w.heap.size + 1) 8 (by omega) (.string (T 8))
    replace h := setB h (w.heap.size + 1) 9 (by omega) (.string (T 9))
    replace h := setB h (w.heap.size + 1) 10 (by omega) (.string (T 10))
    replace h := setB h (w.heap.size + 1) 11 (by omega) (.string (T 11))
    replace h := setB h (w.heap.size + 1) 12 (by omega) (.string (T 12))
    replace h := setB h (w.heap.size + 1) 13 (by omega) (.string (T 13))
    replace h := setB h (w.heap.size + 1) 14 (by omega) (.string (T 14))
    replace h := setB h (w.heap.size + 1) 15 (by omega) (.string (T 15))
    exact h
  have HQ := hid hq
  clear hq h1 HX HU HK1 HLM HAL
  refine wpAnyL_one (i := 5) (by kernel_rfl) rfl (fun K hK => ?_)
  rw [if_pos (by rfl)]
  go_simp
  refine hK.out _ _ (fun h => absurd rfl h) ?_
  clear hK K hHeld
  refine wpAnyL_done (by kernel_rfl) ?_
  generalize ((((((((((((((((w4.setCell ⟨w.heap.size + 1, 0, none⟩ (.string (T 0))).setCell ⟨w.heap.size + 1, 1, none⟩ (.string (T 1))).setCell ⟨w.heap.size + 1, 2, none⟩ (.string (T 2))).setCell ⟨w.heap.size + 1, 3, none⟩ (.string (T 3))).setCell ⟨w.heap.size + 1, 4, none⟩ (.string (T 4))).setCell ⟨w.heap.size + 1, 5, none⟩ (.string (T 5))).setCell ⟨w.heap.size + 1, 6, none⟩ (.string (T 6))).setCell ⟨w.heap.size + 1, 7, none⟩ (.string (T 7))).setCell ⟨w.heap.size + 1, 8, none⟩ (.string (T 8))).setCell ⟨w.heap.size + 1, 9, none⟩ (.string (T 9))).setCell ⟨w.heap.size + 1, 10, none⟩ (.string (T 10))).setCell ⟨w.heap.size + 1, 11, none⟩ (.string (T 11))).setCell ⟨w.heap.size + 1, 12, none⟩ (.string (T 12))).setCell ⟨w.heap.size + 1, 13, none⟩ (.string (T 13))).setCell ⟨w.heap.size + 1, 14, none⟩ (.string (T 14))).setCell ⟨w.heap.size + 1, 15, none⟩ (.string (T 15))) = XX at *
  have e0 : XX.cell? ⟨w.heap.size + 1, 0, none⟩ = some (.string (T 0)) := box_cell HQ.out 0
  have e1 : XX.cell? ⟨w.heap.size + 1, 1, none⟩ = some (.string (T 1)) := box_cell HQ.out 1
  have e2 : XX.cell? ⟨w.heap.size + 1, 2, none⟩ = some (.string (T 2)) := box_cell HQ.out 2
  have e3 : XX.cell? ⟨w.heap.size + 1, 3, none⟩ = some (.string (T 3)) := box_cell HQ.out 3
  have e4 : XX.cell? ⟨w.heap.size + 1, 4, none⟩ = some (.string (T 4)) := box_cell HQ.out 4
  have e5 : XX.cell? ⟨w.heap.size + 1, 5, none⟩ = some (.string (T 5)) := box_cell HQ.out 5
  have e6 : XX.cell? ⟨w.heap.size + 1, 6, none⟩ = some (.string (T 6)) := box_cell HQ.out 6
  have e7 : XX.cell? ⟨w.heap.size + 1, 7, none⟩ = some (.string (T 7)) := box_cell HQ.out 7
  have e8 : XX.cell? ⟨w.heap.size + 1, 8, none⟩ = some (.string (T 8)) := box_cell HQ.out 8
  have e9 : XX.cell? ⟨w.heap.size + 1, 9, none⟩ = some (.string (T 9)) := box_cell HQ.out 9
  have e10 : XX.cell? ⟨w.heap.size + 1, 10, none⟩ = some (.string (T 10)) := box_cell HQ.out 10
  have e11 : XX.cell? ⟨w.heap.size + 1, 11, none⟩ = some (.string (T 11)) := box_cell HQ.out 11
  have e12 : XX.cell? ⟨w.heap.size + 1, 12, none⟩ = some (.string (T 12)) := box_cell HQ.out 12
  have e13 : XX.cell? ⟨w.heap.size + 1, 13, none⟩ = some (.string (T 13)) := box_cell HQ.out 13
  have e14 : XX.cell? ⟨w.heap.size + 1, 14, none⟩ = some (.string (T 14)) := box_cell HQ.out 14
  have e15 : XX.cell? ⟨w.heap.size + 1, 15, none⟩ = some (.string (T 15)) := box_cell HQ.out 15
  go_wp2_with fail
  refine bodyPost_ret (v := .agg #[.string (T 0), .string (T 1), .string (T 2), .string (T 3), .string (T 4), .string (T 5), .string (T 6), .string (T 7), .string (T 8), .string (T 9), .string (T 10), .string (T 11), .string (T 12), .string (T 13), .string (T 14), .string (T 15)]) (by simp [results, Try.results45, go_sem, e0, e1, e2, e3, e4, e5, e6, e7, e8, e9, e10, e11, e12, e13, e14, e15]) rfl ?_
  exact ⟨rfl, HBF.out⟩
theorem ss_box {u : World} {B : Nat} {t : TypeId} {q : Nat × Nat} (T : Nat → ByteArray) (h : u.heap[B]? = some (.cells (arrS T 16) t q)) : Ss u.heap.size (some ⟨B, 0, none⟩) ((List.range 16).map T) u := by
  refine ⟨fun _ => ⟨B, 0, rfl, (Array.getElem?_eq_some_iff.1 h).1, fun i hi j hj => ?_⟩⟩
  have hi' : i < 16 := by simpa using hi
  obtain rfl : j = 0 := by omega
  have hc : u.cell? ⟨B, i, none⟩ = some (.string (T i)) := by
    unfold World.cell?
    rw [h]
    show (arrS T 16)[i]? = _
    rw [Array.getElem?_eq_getElem (by rw [arrS_size]; exact hi'), arrS_at, if_pos hi']
  have e : (0 : Nat) + i * 1 + 0 = i := by omega
  rw [e, hc]
  simp [scell]
end Go.Proofs.Ytlifhakgboekfab
