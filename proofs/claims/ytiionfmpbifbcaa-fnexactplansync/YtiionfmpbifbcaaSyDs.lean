/- The model's DirtyIn. -/
import Derived.Test.YtiionfmpbifbcaaSyDi
namespace Go.Proofs.Ytiionfmpbifbcaa
set_option maxRecDepth 100000
open Go Go.ChangeShapes Go.WideShapes Go.ChangeAt Go.RowKit
set_option maxHeartbeats 3000000 in
theorem l15Dirty_any (a : Option Addr) (c : Nat) (A : List Ly) (m : Int) (w : World) (hA : Mr a c A w) (hg : GoodK A) :
    Calls Try.prog 55 #[.agg #[.slice a A.length c], .int .i64 m] w fun e w' => ∃ v, e = .returned v ∧ AL w.heap.size v (dirtP A m) w' ∧ Below w.heap.size w w' := by
  have b0 := boxB w (.cells #[.slice a A.length c] 30)
  have k0 := heap_last w (.cells #[.slice a A.length c] 30)
  have z0 : (w.alloc (.cells #[.slice a A.length c] 30)).heap.size = w.heap.size + 1 := heap_size _ _
  have HZ := hid hA.ys
  have HG := hid hg
  clear hA hg
  generalize hW : w.alloc (.cells #[.slice a A.length c] 30) = W at *
  have HB0 := hid b0
  have x0 := box_cell k0 0
  clear b0 k0
  go_enter Try.func55, Try.ntmps55
  go_wp2_with fail
  clear hW x0
  go_loopw [5, 13] (fun s i wr => ∃ (k : Nat) (v : Value), k ≤ A.length ∧ i = .int .i64 k ∧ s = v ∧ AL w.heap.size v (putsI [] (dirtL (A.take k) m)) wr ∧ Below w.heap.size w wr) (fun _ i _ => A.length - (intOf i).toNat)
  case atStart => exact ⟨0, _, Nat.zero_le _, rfl, rfl, AL.nil _ _, HB0.out⟩
  case round =>
    clear HB0
    obtain ⟨k, v, hk, rfl, rfl, hal, hbel⟩ := hrel
    have HAL := hid hal
    have HBEL := hid hbel
    clear hal
    by_cases hlt : k < A.length
    · obtain ⟨b, off, rfl, hb, hcl⟩ := HZ.out (by omega)
      obtain ⟨p, k1, q, k2, c0, c1, c2, hI, -⟩ := hcl k hlt
      rw [← HBEL.out.cell (p := ⟨b, off + k * 3, none⟩) hb] at c0
      rw [← HBEL.out.cell (p := ⟨b, off + k * 3 + 1, none⟩) hb] at c1
      rw [← HBEL.out.cell (p := ⟨b, off + k * 3 + 2, none⟩) hb] at c2
      have HT := hid (dirtL_take A m k hlt)
      have hfew := few_bl HG.out k hlt
      have hln := dirtL_len HG.out m k (by omega)
      have h8 := HG.out.2.1
      have HI := hid hI
      clear hcl hbel hI
      generalize hy : A[k] = y at *
      obtain ⟨mk, bl, dt⟩ := y
      simp only at c0 c1 c2 HT HI hfew
      generalize dt.length = nd at *
      have HL2 := hid (heap_last wr (.cells #[.int .i64 mk, .slice p bl.length k1, .slice q nd k2] 79))
      have hbx := boxB wr (.cells #[.int .i64 mk, .slice p bl.length k1, .slice q nd k2] 79)
      have HA2 := hid (HAL.out.below hbx)
      have HB2 := hid (HBEL.out.trans (hbx.mono HBEL.out.size))
      clear hbx
      clear hy
      go_upto_region 5 with fail
      generalize wr.alloc (.cells #[.int .i64 mk, .slice p bl.length k1, .slice q nd k2] 79) = W2 at *
      have z0 := box_cell HL2.out 0
      have z1 := box_cell HL2.out 1
      clear c0 c1 c2
      by_cases hq : m < mk
      · have d1 : decide (m < mk) = true := decide_eq_true hq
        have HT2 : Hid (putsI [] (dirtL (A.take (k + 1)) m) = putsI (putsI [] (dirtL (A.take k) m)) bl) := by show _ = _; rw [HT.out, if_pos hq, putsI_app]
        have hl1 := putsI_len (dirtL (A.take k) m) []
        have HS1 := hid ((putsI_strict (dirtL (A.take k) m) [] List.Pairwise.nil).1)
        simp only [List.length_nil] at hl1
        clear hq HT
        generalize putsI [] (dirtL (A.take k) m) = acc at *
        generalize (dirtL (A.take k) m).length = nl at *
        go_wp2_with fail
        go_loopw [5, 24] (fun s i wi => ∃ (j : Nat) (u : Value), j ≤ bl.length ∧ i = .int .i64 j ∧ s = u ∧ AL w.heap.size u (putsI acc (bl.take j)) wi ∧ Below w.heap.size w wi) (fun _ i _ => bl.length - (intOf i).toNat)
        case atStart => exact ⟨0, _, Nat.zero_le _, rfl, rfl, HA2.out, HB2.out⟩
        case round =>
          clear HA2 HB2 HL2 z0 z1 HAL HBEL
          obtain ⟨j, u, hj, rfl, rfl, hau, hbu⟩ := hrel
          have HAU := hid hau
          have HBU := hid hbu
          by_cases hjl : j < bl.length
          · obtain ⟨b2, off2, rfl, hb2, hc2⟩ := (HI.out.below hbu).cell (by omega)
            have e2 := hc2 j hjl
            have hl2 := putsI_len (bl.take j) acc
            rw [List.length_take] at hl2
            have HP := hid (putI_any w.heap.size _ (putsI acc (bl.take j)) bl[j] _ (by omega) hbu.size hau (putsI_sorted acc (bl.take j) HS1.out))
            have HT3 := hid (putsI_take acc bl j hjl)
            clear hc2 hau hbu
            generalize bl[j] = x at *
            go_wp2_with fail
            refine HP.out.mono ?_
            rintro e w5 ⟨u', rfl, o5, g5⟩
            have HO := hid o5
            have HBY := hid (HBU.out.trans (g5.mono HBU.out.size))
            clear o5 g5 HP
            go_wp2_with fail
            go_roundw
            case rel => exact ⟨j + 1, u', by omega, by go_num, rfl, by rw [HT3.out]; exact HO.out, HBY.out⟩
            case measure => simp [intOf]; omega
          · obtain rfl : j = bl.length := by omega
            rw [List.take_length] at HAU
            clear hau hbu
            go_wp2_with fail
            go_roundw
            case rel => exact ⟨k + 1, _, by omega, by go_num, rfl, by rw [HT2.out]; exact HAU.out, HBU.out⟩
            case measure => simp [intOf]; omega
      · have d1 : decide (m < mk) = false := decide_eq_false hq
        have HT2 : Hid (dirtL (A.take (k + 1)) m = dirtL (A.take k) m) := by show _ = _; rw [HT.out, if_neg hq, List.append_nil]
        clear hq HT
        go_wp2_with fail
        go_roundw
        case rel => exact ⟨k + 1, _, by omega, by go_num, rfl, by rw [HT2.out]; exact HA2.out, HB2.out⟩
        case measure => simp [intOf]; omega
    · obtain rfl : k = A.length := by omega
      rw [List.take_length] at HAL
      clear hbel
      go_wp2_with fail
      go_ret
      exact ⟨_, rfl, HAL.out, HBEL.out⟩
set_option maxHeartbeats 4000000 in
theorem sdirty_any (a : Option Addr) (c : Nat) (A : List Ly) (m : Int) (w : World) (hA : Mr a c A w) :
    Calls Try.prog 28 #[.agg #[.slice a A.length c], .int .i64 m] w (LOut (dirtV A m) (decide (DirtOk A m)) w) := by
  have b0 := boxB w (.cells #[.slice a A.length c] 30)
  have k0 := heap_last w (.cells #[.slice a A.length c] 30)
  generalize hW : w.alloc (.cells #[.slice a A.length c] 30) = W at *
  have HX : Hid (∀ v, Below W.heap.size W v → v.cell? ⟨w.heap.size, 0, none⟩ = some (.slice a A.length c)) := fun v g => box_cell ((g.block _ (kboxS k0)).trans k0) 0
  have HU : Hid (∀ v, Below W.heap.size W v → Below w.heap.size w v) := fun v g => b0.trans (g.mono b0.size)
  have HA : Hid (∀ v, Below W.heap.size W v → Mr a c A v) := fun v g => hA.on (HU.out v g)
  have B0 : Hid (Below W.heap.size W W) := Below.refl _ _
  have HG1 : Hid (∀ v, Below W.heap.size W v → Calls Try.prog 48 #[.agg #[.slice a A.length c]] v fun e w' => e = .returned (.bool (goodK A)) ∧ Below v.heap.size v w') := fun v g => (HA.out v g).sgood
  have HF1 : Hid (∀ v, Below W.heap.size W v → Calls Try.prog 54 #[.agg #[.slice a A.length c], .int .i64 m] v fun e w' => e = .returned (.int .i64 (fk A m)) ∧ Below v.heap.size v w') := fun v g => (HA.out v g).find m
  have HWB : Hid (GoodK A → ∀ v, Below W.heap.size W v → Calls Try.prog 55 #[.agg #[.slice a A.length c], .int .i64 m] v fun e w' => ∃ u, e = .returned u ∧ AL v.heap.size u (dirtP A m) w' ∧ Below v.heap.size v w') := fun h v g => l15Dirty_any a c A m v (HA.out v g) h
  have x0 := HX.out _ B0.out
  clear hA k0 b0 HA
  go_enter Try.func28, Try.ntmps28
  go_wp2_with fail
  clear hW
  refine (HG1.out _ B0.out).mono ?_
  rintro e w1 ⟨rfl, g1⟩
  have B1 : Hid (Below W.heap.size W w1) := B0.out.trans (g1.mono B0.out.size)
  clear g1 x0
  have x0 := HX.out _ B1.out
  by_cases hg : GoodK A
  case neg =>
    have e1 : Hid (dirtV A m = [] ∧ decide (DirtOk A m) = false) := ⟨if_neg (fun h => hg h.1), decide_eq_false (fun h => hg h.1)⟩
    rw [goodK_no hg]
    clear hg HWB
    go_wp2_with fail
    go_ret2
    rw [e1.out.1, e1.out.2]
    exact LOut.no (HU.out _ B1.out)
  have HGK := hid hg
  rw [goodK_iff.2 hg]
  clear hg
  go_wp2_with fail
  refine (HF1.out _ B1.out).mono ?_
  rintro e w2 ⟨rfl, g2⟩
  have B2 : Hid (Below W.heap.size W w2) := B1.out.trans (g2.mono B1.out.size)
  clear g2 x0
  have x0 := HX.out _ B2.out
  by_cases hf : fndK A m < A.length
  case neg =>
    have e1 : Hid (dirtV A m = [] ∧ decide (DirtOk A m) = false) := ⟨if_neg (fun h => hf h.2), decide_eq_false (fun h => hf h.2)⟩
    rw [fk_none hf]
    clear hf HWB HGK
    go_wp2_with fail
    go_ret2
    rw [e1.out.1, e1.out.2]
    exact LOut.no (HU.out _ B2.out)
  have e1 : Hid (dirtV A m = dirtP A m ∧ decide (DirtOk A m) = true) := ⟨if_pos ⟨HGK.out, hf⟩, decide_eq_true ⟨HGK.out, hf⟩⟩
  have HW3 := hid (HWB.out HGK.out _ B2.out)
  have d2 : decide (((fndK A m : Nat) : Int) < 0) = false := decide_eq_false (by omega)
  rw [fk_at hf]
  clear hf HWB HGK
  go_wp2_with fail
  refine HW3.out.mono ?_
  rintro e w3 ⟨u, rfl, o3, g3⟩
  have O3 := hid (AL.mono o3 (HU.out _ B2.out).size)
  have B3 : Hid (Below W.heap.size W w3) := B2.out.trans (g3.mono B2.out.size)
  clear g3 o3 x0 HW3
  go_wp2_with fail
  go_ret2
  rw [e1.out.1, e1.out.2]
  exact LOut.yes O3.out (HU.out _ B3.out)
end Go.Proofs.Ytiionfmpbifbcaa
