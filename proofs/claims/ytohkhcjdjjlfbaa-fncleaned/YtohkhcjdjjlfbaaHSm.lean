/- Heaps held against each other. -/
import Derived.Test.YtohkhcjdjjlfbaaHA
import Derived.Test.YtohkhcjdjjlfbaaHDa
import Derived.Deep.RegionHeld
namespace Go.Proofs.Ytohkhcjdjjlfbaa
set_option maxRecDepth 100000
open Go Go.ChangeShapes Go.WideShapes Go.ChangeAt Go.RowKit G00541
set_option maxHeartbeats 1000000 in
theorem sameInts_same (a1 a2 : Option Addr) (c1 c2 : Nat) (l : List Int) (w : World) (hn : l.length ≤ 1048576) (h1 : Is w.heap.size a1 l w) (h2 : Is w.heap.size a2 l w) :
    Calls Try.prog 14 #[.slice a1 l.length c1, .slice a2 l.length c2] w fun e w' => e = .returned (.bool true) ∧ Below w.heap.size w w' := by
  have H1 : Hid (Is w.heap.size a1 l w) := h1
  have H2 : Hid (Is w.heap.size a2 l w) := h2
  clear h1 h2
  go_enter Try.func14, Try.ntmps14
  go_wp2
  go_loopw [13] (fun i wr => ∃ k : Nat, k ≤ l.length ∧ i = .int .i64 k ∧ Below w.heap.size w wr) (fun i _ => l.length - (intOf i).toNat)
  case atStart => exact ⟨0, Nat.zero_le _, rfl, Below.refl _ _⟩
  case round =>
    obtain ⟨k, hk, rfl, hbel⟩ := hrel
    have HBEL : Hid (Below w.heap.size w wr) := hbel
    by_cases hlt : k < l.length
    · obtain ⟨b1, o1, rfl, hb1, hc1⟩ := H1.out.cell (by omega)
      obtain ⟨b2, o2, rfl, hb2, hc2⟩ := H2.out.cell (by omega)
      have x0 := (hbel.cell (p := ⟨b1, o1 + k, none⟩) hb1).trans (hc1 k hlt)
      have y0 := (hbel.cell (p := ⟨b2, o2 + k, none⟩) hb2).trans (hc2 k hlt)
      clear hc1 hc2 hbel
      generalize l[k] = n at *
      go_wp2
      go_region
      all_goals
        go_wp2
        go_roundw
        · exact ⟨k + 1, by omega, by go_num, HBEL.out.drew⟩
        · simp [intOf]; omega
    · clear hbel
      go_wp2
      go_ret
      exact ⟨rfl, HBEL.out⟩
set_option maxHeartbeats 1000000 in
theorem sameBools_same (a1 a2 : Option Addr) (c1 c2 : Nat) (l : List Bool) (w : World) (hn : l.length ≤ 1048576) (h1 : Bs w.heap.size a1 l w) (h2 : Bs w.heap.size a2 l w) :
    Calls Try.prog 40 #[.slice a1 l.length c1, .slice a2 l.length c2] w fun e w' => e = .returned (.bool true) ∧ Below w.heap.size w w' := by
  have H1 : Hid (Bs w.heap.size a1 l w) := h1
  have H2 : Hid (Bs w.heap.size a2 l w) := h2
  clear h1 h2
  go_enter Try.func40, Try.ntmps40
  go_wp2
  go_loopw [13] (fun i wr => ∃ k : Nat, k ≤ l.length ∧ i = .int .i64 k ∧ Below w.heap.size w wr) (fun i _ => l.length - (intOf i).toNat)
  case atStart => exact ⟨0, Nat.zero_le _, rfl, Below.refl _ _⟩
  case round =>
    obtain ⟨k, hk, rfl, hbel⟩ := hrel
    have HBEL : Hid (Below w.heap.size w wr) := hbel
    by_cases hlt : k < l.length
    · obtain ⟨b1, o1, rfl, hb1, hc1⟩ := H1.out.cell (by omega)
      obtain ⟨b2, o2, rfl, hb2, hc2⟩ := H2.out.cell (by omega)
      have x0 := (hbel.cell (p := ⟨b1, o1 + k, none⟩) hb1).trans (hc1 k hlt)
      have y0 := (hbel.cell (p := ⟨b2, o2 + k, none⟩) hb2).trans (hc2 k hlt)
      clear hc1 hc2 hbel
      generalize l[k] = n at *
      have hnn : (n != n) = false := by cases n <;> rfl
      go_wp2
      go_region
      all_goals
        go_wp2
        go_roundw
        · exact ⟨k + 1, by omega, by go_num, HBEL.out.drew⟩
        · simp [intOf]; omega
    · clear hbel
      go_wp2
      go_ret
      exact ⟨rfl, HBEL.out⟩
theorem kboxH {w : World} {R : Nat} {o : Obj} (h : w.heap[R]? = some o) : R < w.heap.size := by
  obtain ⟨h1, _⟩ := Array.getElem?_eq_some_iff.1 h
  exact h1
set_option maxHeartbeats 4000000 in
theorem sameHeap_same (a1 a2 d1 d2 : Option Addr) (k1 k2 j1 j2 : Nat) (S : List Sg) (L : List (List Bool)) (w : World) (hl : L.length = S.length) (hn : S.length ≤ 1048576) (hb : ∀ k (h : k < S.length), S[k].bl.length ≤ 1048576) (hv : ∀ k (h : k < L.length), L[k].length ≤ 1048576)
    (hG1 : Gs w.heap.size a1 S w) (hV1 : Vs w.heap.size d1 L w) (hG2 : Gs w.heap.size a2 S w) (hV2 : Vs w.heap.size d2 L w) :
    Calls Try.prog 10 #[.agg #[.slice a1 S.length k1, .slice d1 L.length j1], .agg #[.slice a2 S.length k2, .slice d2 L.length j2]] w fun e w' => e = .returned (.bool true) ∧ Below w.heap.size w w' := by
  have HL := hid hl
  have hnL : L.length ≤ 1048576 := by omega
  clear hl
  have gA := boxB w (.cells #[.slice a1 S.length k1, .slice d1 L.length j1] 26)
  have kA := heap_last w (.cells #[.slice a1 S.length k1, .slice d1 L.length j1] 26)
  generalize hW1 : w.alloc (.cells #[.slice a1 S.length k1, .slice d1 L.length j1] 26) = wa at *
  have gB := boxB wa (.cells #[.slice a2 S.length k2, .slice d2 L.length j2] 26)
  have kB := heap_last wa (.cells #[.slice a2 S.length k2, .slice d2 L.length j2] 26)
  generalize hW2 : wa.alloc (.cells #[.slice a2 S.length k2, .slice d2 L.length j2] 26) = wb at *
  have g := gA.trans (gB.mono gA.size)
  have HG := hid g
  have HA := hid ((gB.block _ (kboxH kA)).trans kA)
  have HB := hid kB
  have HG1 := hid ((hG1.below g).mono g.size)
  have HG2 := hid ((hG2.below g).mono g.size)
  have HV1 := hid ((hV1.below g).mono g.size)
  have HV2 := hid ((hV2.below g).mono g.size)
  have HX : Hid (∀ v, Below wb.heap.size wb v → (v.cell? ⟨w.heap.size, 0, none⟩ = some (.slice a1 S.length k1) ∧ v.cell? ⟨w.heap.size, 1, none⟩ = some (.slice d1 L.length j1)) ∧ v.cell? ⟨wa.heap.size, 0, none⟩ = some (.slice a2 S.length k2) ∧ v.cell? ⟨wa.heap.size, 1, none⟩ = some (.slice d2 L.length j2)) := fun v g => by
    have h1 := (g.block _ (kboxH HA.out)).trans HA.out
    have h2 := (g.block _ (kboxH HB.out)).trans HB.out
    exact ⟨⟨box_cell h1 0, box_cell h1 1⟩, box_cell h2 0, box_cell h2 1⟩
  have HBL := hid hb
  have HVL := hid hv
  clear gA gB kA kB g hG1 hG2 hV1 hV2 hb hv
  obtain ⟨⟨x0, x1⟩, y0, y1⟩ := HX.out wb (Below.refl _ _)
  go_enter Try.func10, Try.ntmps10
  go_wp2_with fail
  go_loopw [25] (fun i wr => ∃ k : Nat, k ≤ S.length ∧ i = .int .i64 k ∧ Below wb.heap.size wb wr) (fun i _ => S.length - (intOf i).toNat)
  case atStart => exact ⟨0, Nat.zero_le _, rfl, Below.refl _ _⟩
  case round =>
    clear x0 x1 y0 y1
    obtain ⟨k, hk, rfl, hbel⟩ := hrel
    have HBEL := hid hbel
    clear hbel
    by_cases hlt : k < S.length
    · have hltL : k < L.length := by have := HL.out; omega
      obtain ⟨b1, o1, rfl, hb1, hc1⟩ := HG1.out (by omega)
      obtain ⟨b2, o2, rfl, hb2, hc2⟩ := HG2.out (by omega)
      obtain ⟨b3, o3, rfl, hb3, hc3⟩ := HV1.out (by omega)
      obtain ⟨b4, o4, rfl, hb4, hc4⟩ := HV2.out (by omega)
      obtain ⟨p1, c1, m1, n1, I1⟩ := hc1 k hlt
      obtain ⟨p2, c2, m2, n2, I2⟩ := hc2 k hlt
      obtain ⟨p3, c3, m3, I3⟩ := hc3 k (by omega)
      obtain ⟨p4, c4, m4, I4⟩ := hc4 k (by omega)
      have HSI := hid (fun v (g : Below wb.heap.size wb v) => sameInts_same p1 p2 c1 c2 S[k].bl v (HBL.out k hlt) ((I1.below g).mono g.size) ((I2.below g).mono g.size))
      have HSB := hid (fun v (g : Below wb.heap.size wb v) => sameBools_same p3 p4 c3 c4 (L[k]'(by omega)) v (HVL.out k (by omega)) ((I3.below g).mono g.size) ((I4.below g).mono g.size))
      generalize S[k].bl = sb at *
      generalize S[k].age = sa at *
      generalize (L[k]'(by omega)) = lv at *
      have HSS : Hid (∀ v, Below wb.heap.size wb v → v.cell? ⟨w.heap.size, 0, none⟩ = some (.slice (some ⟨b1, o1, none⟩) S.length k1) ∧ v.cell? ⟨w.heap.size, 1, none⟩ = some (.slice (some ⟨b3, o3, none⟩) L.length j1) ∧ v.cell? ⟨wa.heap.size, 0, none⟩ = some (.slice (some ⟨b2, o2, none⟩) S.length k2) ∧ v.cell? ⟨wa.heap.size, 1, none⟩ = some (.slice (some ⟨b4, o4, none⟩) L.length j2) ∧ v.cell? ⟨b1, o1 + k * 2, none⟩ = some (.slice p1 sb.length c1) ∧ v.cell? ⟨b1, o1 + k * 2 + 1, none⟩ = some (.int .i64 sa) ∧ v.cell? ⟨b2, o2 + k * 2, none⟩ = some (.slice p2 sb.length c2) ∧ v.cell? ⟨b2, o2 + k * 2 + 1, none⟩ = some (.int .i64 sa) ∧ v.cell? ⟨b3, o3 + k, none⟩ = some (.slice p3 lv.length c3) ∧ v.cell? ⟨b4, o4 + k, none⟩ = some (.slice p4 lv.length c4)) := fun v g => by
        obtain ⟨⟨x0, x1⟩, y0, y1⟩ := HX.out v g
        exact ⟨x0, x1, y0, y1, (g.cell (p := ⟨b1, _, none⟩) hb1).trans m1, (g.cell (p := ⟨b1, _, none⟩) hb1).trans n1, (g.cell (p := ⟨b2, _, none⟩) hb2).trans m2, (g.cell (p := ⟨b2, _, none⟩) hb2).trans n2, (g.cell (p := ⟨b3, _, none⟩) hb3).trans m3, (g.cell (p := ⟨b4, _, none⟩) hb4).trans m4⟩
      have BD : Below wb.heap.size wb wr.drew := HBEL.out.trans ((Below.refl _ _).drew.mono HBEL.out.size)
      clear hc1 hc2 hc3 hc4 m1 m2 m3 m4 n1 n2 I1 I2 I3 I4 HX
      go_wp2_with fail
      have d0 := HSS.out _ BD
      go_region_held (fun v => v.cell? ⟨w.heap.size, 0, none⟩ = some (.slice (some ⟨b1, o1, none⟩) S.length k1) ∧ v.cell? ⟨w.heap.size, 1, none⟩ = some (.slice (some ⟨b3, o3, none⟩) L.length j1) ∧ v.cell? ⟨wa.heap.size, 0, none⟩ = some (.slice (some ⟨b2, o2, none⟩) S.length k2) ∧ v.cell? ⟨wa.heap.size, 1, none⟩ = some (.slice (some ⟨b4, o4, none⟩) L.length j2) ∧ v.cell? ⟨b1, o1 + k * 2, none⟩ = some (.slice p1 sb.length c1) ∧ v.cell? ⟨b1, o1 + k * 2 + 1, none⟩ = some (.int .i64 sa) ∧ v.cell? ⟨b2, o2 + k * 2, none⟩ = some (.slice p2 sb.length c2) ∧ v.cell? ⟨b2, o2 + k * 2 + 1, none⟩ = some (.int .i64 sa) ∧ v.cell? ⟨b3, o3 + k, none⟩ = some (.slice p3 lv.length c3) ∧ v.cell? ⟨b4, o4 + k, none⟩ = some (.slice p4 lv.length c4)) (first | exact HSS.out _ (by with_reducible assumption)) (first | (go_at_call 14; refine (HSI.out _ BD).mono ?_; rintro e w3 ⟨rfl, q3⟩; have B3 : Below wb.heap.size wb w3 := BD.trans (q3.mono BD.size)) | (go_at_call 40; refine (HSB.out _ B3).mono ?_; rintro e w4 ⟨rfl, q4⟩; have B4 : Below wb.heap.size wb w4 := B3.trans (q4.mono B3.size)))
      all_goals
        have HB4 := hid B4
        go_wp2_with fail
        go_roundw
        case rel => exact ⟨k + 1, by omega, by go_num, HB4.out⟩
        case measure => simp [intOf]; omega
    · go_wp2_with fail
      go_ret
      exact ⟨rfl, HG.out.trans (HBEL.out.mono HG.out.size)⟩
end Go.Proofs.Ytohkhcjdjjlfbaa
