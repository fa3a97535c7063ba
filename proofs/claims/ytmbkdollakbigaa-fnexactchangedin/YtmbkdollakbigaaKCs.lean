/- The model's ChangedIn. -/
import Derived.Test.YtmbkdollakbigaaKCp
import Derived.Test.YtmbkdollakbigaaKMr
import Derived.Test.YtmbkdollakbigaaSyGw
import Derived.Deep.DeepCutAuto
namespace Go.Proofs.Ytmbkdollakbigaa
set_option maxRecDepth 100000
open Go Go.ChangeShapes Go.WideShapes Go.ChangeAt Go.RowKit
set_option maxHeartbeats 8000000 in
theorem schg_any (a : Option Addr) (c : Nat) (A : List Ly) (m n : Int) (w : World) (hA : Mr a c A w) :
    Calls Try.prog 6 #[.agg #[.slice a A.length c], .int .i64 m, .int .i64 n] w (LOut (chgV A m n) (decide (ChgOk A m n)) w) := by
  have b0 := boxB w (.cells #[.slice a A.length c] 31)
  have k0 := heap_last w (.cells #[.slice a A.length c] 31)
  generalize hW : w.alloc (.cells #[.slice a A.length c] 31) = W at *
  have HX : Hid (∀ v, Below W.heap.size W v → v.cell? ⟨w.heap.size, 0, none⟩ = some (.slice a A.length c)) := fun v g => box_cell ((g.block _ (kboxS k0)).trans k0) 0
  have HU : Hid (∀ v, Below W.heap.size W v → Below w.heap.size w v) := fun v g => b0.trans (g.mono b0.size)
  have HA : Hid (∀ v, Below W.heap.size W v → Mr a c A v) := fun v g => hA.on (HU.out v g)
  have B0 : Hid (Below W.heap.size W W) := Below.refl _ _
  have HG1 : Hid (∀ v, Below W.heap.size W v → Calls Try.prog 18 #[.agg #[.slice a A.length c]] v fun e w' => e = .returned (.bool (goodK A)) ∧ Below v.heap.size v w') := fun v g => (HA.out v g).sgood
  have HF1 : Hid (∀ v, Below W.heap.size W v → Calls Try.prog 19 #[.agg #[.slice a A.length c], .int .i64 m] v fun e w' => e = .returned (.int .i64 (fk A m)) ∧ Below v.heap.size v w') := fun v g => (HA.out v g).find m
  have HF2 : Hid (∀ v, Below W.heap.size W v → Calls Try.prog 19 #[.agg #[.slice a A.length c], .int .i64 n] v fun e w' => e = .returned (.int .i64 (fk A n)) ∧ Below v.heap.size v w') := fun v g => (HA.out v g).find n
  have HAT : Hid (GoodK A → ∀ i : Nat, i < A.length → ∀ (k : Nat) v, Below W.heap.size W v → Calls Try.prog 20 #[.agg #[.slice a A.length c], .int .i64 (i : Nat), .int .i64 (k : Int)] v fun e w' => e = .returned (.string (atF A i (k : Int))) ∧ Below v.heap.size v w') := fun hg i hi k v g => (HA.out v g).at hg i hi _
  have x0 := HX.out _ B0.out
  clear hA k0 b0 HA
  go_enter Try.func6, Try.ntmps6
  go_wp2_with fail
  clear hW
  refine (HG1.out _ B0.out).mono ?_
  rintro e w1 ⟨rfl, g1⟩
  have B1 : Hid (Below W.heap.size W w1) := B0.out.trans (g1.mono B0.out.size)
  clear g1 x0
  have x0 := HX.out _ B1.out
  by_cases hg : GoodK A
  case neg =>
    have e1 : Hid (chgV A m n = [] ∧ decide (ChgOk A m n) = false) := ⟨if_neg (fun h => hg h.1), decide_eq_false (fun h => hg h.1)⟩
    rw [goodK_no hg]
    clear hg HAT HF1 HF2 HG1
    go_wp2_with fail
    go_ret2
    rw [e1.out.1, e1.out.2]
    exact LOut.no (HU.out _ B1.out)
  have HGK := hid hg
  rw [goodK_iff.2 hg]
  clear hg
  go_wp2_with fail
  refine (HF1.out _ B1.out).mono ?_
  rintro e w2 ⟨rfl, g2⟩
  have B2 : Hid (Below W.heap.size W w2) := B1.out.trans (g2.mono B1.out.size)
  clear g2 x0
  have x0 := HX.out _ B2.out
  by_cases hf : fndK A m < A.length
  case neg =>
    have e1 : Hid (chgV A m n = [] ∧ decide (ChgOk A m n) = false) := ⟨if_neg (fun h => hf h.2.1), decide_eq_false (fun h => hf h.2.1)⟩
    rw [fk_none hf]
    clear hf HAT HGK HF1 HF2 HG1
    go_wp2_with fail
    go_ret2
    rw [e1.out.1, e1.out.2]
    exact LOut.no (HU.out _ B2.out)
  have HFM := hid hf
  have HN1 := hid (fk_at hf)
  have d2 : decide (((fndK A m : Nat) : Int) < 0) = false := decide_eq_false (by omega)
  rw [fk_at hf]
  clear hf
  go_wp2_with fail
  refine (HF2.out _ B2.out).mono ?_
  rintro e w3 ⟨rfl, g3⟩
  have B3 : Hid (Below W.heap.size W w3) := B2.out.trans (g3.mono B2.out.size)
  clear g3 x0
  have x0 := HX.out _ B3.out
  by_cases hh : fndK A n < A.length
  case neg =>
    have e1 : Hid (chgV A m n = [] ∧ decide (ChgOk A m n) = false) := ⟨if_neg (fun h => hh h.2.2), decide_eq_false (fun h => hh h.2.2)⟩
    rw [fk_none hh]
    clear hh HAT HGK HF1 HF2 HG1 HFM HN1 d2
    go_wp2_with fail
    go_ret2
    rw [e1.out.1, e1.out.2]
    exact LOut.no (HU.out _ B3.out)
  have HN2 := hid (fk_at hh)
  have e1 : Hid (chgV A m n = unl (atF A (fndK A m)) (atF A (fndK A n)) 16 ∧ decide (ChgOk A m n) = true) := ⟨if_pos ⟨HGK.out, HFM.out, hh⟩, decide_eq_true ⟨HGK.out, HFM.out, hh⟩⟩
  have d3 : decide (((fndK A n : Nat) : Int) < 0) = false := decide_eq_false (by omega)
  have HT1 := hid (HAT.out HGK.out (fndK A m) HFM.out)
  have HT2 := hid (HAT.out HGK.out (fndK A n) hh)
  rw [fk_at hh]
  clear hh HAT HGK HFM HG1
  rw [HN1.out] at HF1
  rw [HN2.out] at HF2
  clear HN1 HN2
  generalize atF A (fndK A m) = T1 at *
  generalize atF A (fndK A n) = T2 at *
  generalize fndK A m = n1 at *
  generalize fndK A n = n2 at *
  go_wp2_with fail
  refine (HF1.out _ B3.out).mono ?_
  rintro e w4 ⟨rfl, g4⟩
  have B4 : Hid (Below W.heap.size W w4) := B3.out.trans (g4.mono B3.out.size)
  clear g4 x0
  have x0 := HX.out _ B4.out
  go_wp2_with fail
  refine (HF2.out _ B4.out).mono ?_
  rintro e w5 ⟨rfl, g5⟩
  have B5 : Hid (Below W.heap.size W w5) := B4.out.trans (g5.mono B4.out.size)
  clear g5 x0 HF1 HF2 B0 B1 B2 B3 B4
  go_wp2_with fail
  go_loopw [10, 11] (fun s i wr => ∃ (k : Nat) (v : Value), k ≤ 16 ∧ i = .int .i64 k ∧ s = v ∧ AL W.heap.size v (unl T1 T2 k) wr ∧ Below W.heap.size W wr) (fun _ i _ => 16 - (intOf i).toNat)
  case atStart => exact ⟨0, _, by omega, rfl, rfl, AL.nil _ _, B5.out⟩
  case round =>
    obtain ⟨k, v, hk, rfl, rfl, hal, hb⟩ := hrel
    have HAL := hid hal
    have HBR := hid hb
    clear hal hb
    by_cases hlt : k < 16
    · go_upto_region 9 with fail
      have hs0 : ∀ s : Gw wr, s.v.cell? ⟨w.heap.size, 0, none⟩ = some (.slice a A.length c) := fun s => HX.out _ (HBR.out.trans (s.b.mono HBR.out.size))
      have P3 : Hid (∀ s : Gw wr, Calls Try.prog 20 #[.agg #[.slice a A.length c], .int .i64 (n1 : Nat), .int .i64 (k : Int)] s.v fun e w'' => e = .returned (.string (T1 k)) ∧ ∃ s' : Gw wr, w'' = s'.v) := fun s => grown_of (HT1.out k s.v (HBR.out.trans (s.b.mono HBR.out.size)))
      have P4 : Hid (∀ s : Gw wr, Calls Try.prog 20 #[.agg #[.slice a A.length c], .int .i64 (n2 : Nat), .int .i64 (k : Int)] s.v fun e w'' => e = .returned (.string (T2 k)) ∧ ∃ s' : Gw wr, w'' = s'.v) := fun s => grown_of (HT2.out k s.v (HBR.out.trans (s.b.mono HBR.out.size)))
      have hne : Nonempty (Gw wr) := ⟨⟨wr, Below.refl _ _⟩⟩
      have hcl : ∀ s : Gw wr, ∃ s' : Gw wr, s.v = s'.v := fun s => ⟨s, rfl⟩
      have HS1 : Hid (¬ T1 k = T2 k → unl T1 T2 (k + 1) = unl T1 T2 k ++ [(k : Int)]) := unl_no
      have HS2 : Hid (T1 k = T2 k → unl T1 T2 (k + 1) = unl T1 T2 k) := unl_yes
      have hln := unl_len T1 T2 k
      refine region_grown wr (Below.refl _ _) (by kernel_rfl) (by kernel_rfl) ?_
      generalize T1 k = t1 at *
      generalize T2 k = t2 at *
      repeat (go_big_quiet_step ((first | (go_at_call 20; with_reducible exact P3.out _) | (go_at_call 20; with_reducible exact P4.out _))))
      refine wpQuiet_nil ?_
      rintro _ ⟨s, rfl⟩
      have HBS := hid (HBR.out.trans (s.b.mono HBR.out.size))
      have HAS := hid (HAL.out.below (s.b.mono (Nat.le_refl _)))
      clear hs0 P3 P4 hne hcl
      by_cases hq : t1 = t2
      · subst hq
        have d1 : (t1.toList == t1.toList) = true := beq_self_eq_true _
        simp only [d1, Bool.not_true]
        have HV := HS2.out rfl
        go_wp2_with fail
        go_roundw
        case rel => exact ⟨k + 1, _, by omega, by go_num, rfl, by rw [HV]; exact HAS.out, HBS.out⟩
        case measure => simp [intOf]; omega
      · have d1 : (t1.toList == t2.toList) = false := ba_ne hq
        simp only [d1, Bool.not_false]
        have HV := hid (HS1.out hq)
        obtain ⟨v', w6, r6, o6, g6, -⟩ := HAS.out.push HBS.out.size (k : Int) (by omega)
        have HO := hid o6
        have HB6 := hid (HBS.out.trans g6)
        clear o6 g6
        go_wp2_with (at_builtin; refine wpList_append_run rfl _ _ 26 rfl _ _ rfl rfl _ _ r6 ?_)
        go_roundw
        case rel => exact ⟨k + 1, v', by omega, by go_num, rfl, by rw [HV.out]; exact HO.out, HB6.out⟩
        case measure => simp [intOf]; omega
    · obtain rfl : k = 16 := by omega
      have HO := hid (HAL.out.mono (HU.out _ (Below.refl _ _)).size)
      go_wp2_with fail
      go_ret2
      rw [e1.out.1, e1.out.2]
      exact LOut.yes HO.out (HU.out _ HBR.out)
end Go.Proofs.Ytmbkdollakbigaa
