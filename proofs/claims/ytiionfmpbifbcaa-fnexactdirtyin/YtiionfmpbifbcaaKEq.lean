/- Walks of the laws' own compare of marks. -/
import Derived.Test.YtiionfmpbifbcaaKStr
import Derived.Test.YtiionfmpbifbcaaKSz
import Derived.Deep.RegionWith
namespace Go.Proofs.Ytiionfmpbifbcaa
set_option maxRecDepth 100000
open Go Go.ChangeShapes Go.WideShapes Go.ChangeAt Go.RowKit
set_option maxHeartbeats 1000000 in
theorem eqLayer_same (p1 p2 q1 q2 : Option Addr) (c1 c2 d1 d2 : Nat) (m : Int) (bl : List Int) (dt : List ByteArray) (w : World) (hn : bl.length ≤ 1048576) (hm : dt.length ≤ 1048576) (h1 : Is w.heap.size p1 bl w) (h2 : Is w.heap.size p2 bl w) (g1 : Ss w.heap.size q1 dt w) (g2 : Ss w.heap.size q2 dt w) :
    Calls Try.prog 65 #[.agg #[.int .i64 m, .slice p1 bl.length c1, .slice q1 dt.length d1], .agg #[.int .i64 m, .slice p2 bl.length c2, .slice q2 dt.length d2]] w fun e w' => e = .returned (.bool true) ∧ Below w.heap.size w w' := by
  have hK0 : Below w.heap.size w ((w.alloc (.cells #[.int .i64 m, .slice p1 bl.length c1, .slice q1 dt.length d1] 79)).alloc (.cells #[.int .i64 m, .slice p2 bl.length c2, .slice q2 dt.length d2] 79)) := (boxB w _).alloc (by simp) _
  have hx : ((w.alloc (.cells #[.int .i64 m, .slice p1 bl.length c1, .slice q1 dt.length d1] 79)).alloc (.cells #[.int .i64 m, .slice p2 bl.length c2, .slice q2 dt.length d2] 79)).heap[w.heap.size]? = some (.cells #[.int .i64 m, .slice p1 bl.length c1, .slice q1 dt.length d1] 79) := heap_mid2 _ _ _
  have hy : ((w.alloc (.cells #[.int .i64 m, .slice p1 bl.length c1, .slice q1 dt.length d1] 79)).alloc (.cells #[.int .i64 m, .slice p2 bl.length c2, .slice q2 dt.length d2] 79)).heap[w.heap.size + 1]? = some (.cells #[.int .i64 m, .slice p2 bl.length c2, .slice q2 dt.length d2] 79) := heap_last2 _ _ _
  have hsz : ((w.alloc (.cells #[.int .i64 m, .slice p1 bl.length c1, .slice q1 dt.length d1] 79)).alloc (.cells #[.int .i64 m, .slice p2 bl.length c2, .slice q2 dt.length d2] 79)).heap.size = w.heap.size + 2 := by simp
  have HC1 : Hid (∀ v, Below w.heap.size w v → Calls Try.prog 16 #[.slice p1 bl.length c1, .slice p2 bl.length c2] v fun e w' => e = .returned (.bool true) ∧ Below v.heap.size v w') := fun v g => eqIntS_same p1 p2 c1 c2 bl v hn ((h1.below g).mono g.size) ((h2.below g).mono g.size)
  have HC2 : Hid (∀ v, Below w.heap.size w v → Calls Try.prog 25 #[.slice q1 dt.length d1, .slice q2 dt.length d2] v fun e w' => e = .returned (.bool true) ∧ Below v.heap.size v w') := fun v g => eqStringS_same q1 q2 d1 d2 dt v hm ((g1.below g).mono g.size) ((g2.below g).mono g.size)
  clear h1 h2 g1 g2
  generalize hW : (w.alloc (.cells #[.int .i64 m, .slice p1 bl.length c1, .slice q1 dt.length d1] 79)).alloc (.cells #[.int .i64 m, .slice p2 bl.length c2, .slice q2 dt.length d2] 79) = W at *
  have HK0 := hid hK0
  have HX := hid hx
  have HY := hid hy
  clear hK0 hx hy
  have x0 : W.cell? ⟨w.heap.size, 0, none⟩ = some (.int .i64 m) := box_cell HX.out 0
  have x1 : W.cell? ⟨w.heap.size, 1, none⟩ = some (.slice p1 bl.length c1) := box_cell HX.out 1
  have y0 : W.cell? ⟨w.heap.size + 1, 0, none⟩ = some (.int .i64 m) := box_cell HY.out 0
  have y1 : W.cell? ⟨w.heap.size + 1, 1, none⟩ = some (.slice p2 bl.length c2) := box_cell HY.out 1
  go_enter Try.func65, Try.ntmps65
  go_wp2_with fail
  clear hW
  refine (HC1.out _ HK0.out).mono ?_
  rintro e w2 ⟨rfl, b2⟩
  have HB2 := hid (HK0.out.trans (b2.mono HK0.out.size))
  have x2 : w2.cell? ⟨w.heap.size, 2, none⟩ = some (.slice q1 dt.length d1) := box_cell ((b2.block _ (by omega)).trans HX.out) 2
  have y2 : w2.cell? ⟨w.heap.size + 1, 2, none⟩ = some (.slice q2 dt.length d2) := box_cell ((b2.block _ (by omega)).trans HY.out) 2
  clear b2 HC1 x0 x1 y0 y1
  go_wp2_with fail
  refine (HC2.out _ HB2.out).mono ?_
  rintro e w3 ⟨rfl, b3⟩
  have HB3 := hid (HB2.out.trans (b3.mono HB2.out.size))
  clear b3 HC2 x2 y2
  go_wp2_with fail
  go_ret
  exact ⟨rfl, HB3.out⟩
set_option maxHeartbeats 2000000 in
theorem eqLayerS_same (a1 a2 : Option Addr) (c1 c2 : Nat) (S : List Ly) (w : World) (hf : FitK S) (h1 : Ys w.heap.size a1 S w) (h2 : Ys w.heap.size a2 S w) :
    Calls Try.prog 39 #[.slice a1 S.length c1, .slice a2 S.length c2] w fun e w' => e = .returned (.bool true) ∧ Below w.heap.size w w' := by
  have H1 := hid h1
  have H2 := hid h2
  have HF := hid hf
  have hn := hf.len
  clear h1 h2 hf
  go_enter Try.func39, Try.ntmps39
  go_wp2_with fail
  go_loopw [5] (fun i wr => ∃ k : Nat, k ≤ S.length ∧ i = .int .i64 k ∧ Below w.heap.size w wr) (fun i _ => S.length - (intOf i).toNat)
  case atStart => exact ⟨0, Nat.zero_le _, rfl, Below.refl _ _⟩
  case round =>
    obtain ⟨k, hk, rfl, hbel⟩ := hrel
    have HBEL := hid hbel
    by_cases hlt : k < S.length
    · obtain ⟨b1, o1, rfl, hb1, hc1⟩ := H1.out (by omega)
      obtain ⟨b2, o2, rfl, hb2, hc2⟩ := H2.out (by omega)
      obtain ⟨p, c, q, d, x0, x1, x2, hI, hS⟩ := hc1 k hlt
      obtain ⟨p', c', q', d', y0, y1, y2, hJ, hT⟩ := hc2 k hlt
      have kc1 : ∀ o, wr.cell? ⟨b1, o, none⟩ = w.cell? ⟨b1, o, none⟩ := fun o => hbel.cell (p := ⟨b1, o, none⟩) hb1
      have kc2 : ∀ o, wr.cell? ⟨b2, o, none⟩ = w.cell? ⟨b2, o, none⟩ := fun o => hbel.cell (p := ⟨b2, o, none⟩) hb2
      rw [← kc1] at x0 x1 x2
      rw [← kc2] at y0 y1 y2
      have hm1 := HF.out.bl k hlt
      have hm2 := HF.out.dt k hlt
      generalize S[k] = s at *
      obtain ⟨m, bl, dt⟩ := s
      simp only at x0 x1 x2 y0 y1 y2 hI hJ hS hT hm1 hm2
      have hw := HBEL.out.drew
      have HC := hid (eqLayer_same p p' q q' c c' d d' m bl dt wr.drew hm1 hm2 ((hI.below hw).mono hw.size) ((hJ.below hw).mono hw.size) ((hS.below hw).mono hw.size) ((hT.below hw).mono hw.size))
      clear hw
      clear hc1 hc2 hbel hI hJ hS hT kc1 kc2
      go_wp2_with fail
      go_region_with (go_at_call 65; refine HC.out.mono ?_; rintro e w9 ⟨rfl, b9⟩)
      all_goals
        have HB9 : Hid (Below w.heap.size w w9) := HBEL.out.trans ((show Below wr.heap.size wr w9 from ⟨b9.os, b9.tape, b9.output, b9.size, b9.block⟩).mono HBEL.out.size)
        clear b9
        go_wp2
        go_roundw
        · exact ⟨k + 1, by omega, by go_num, HB9.out⟩
        · simp [intOf]; omega
    · clear hbel
      go_wp2
      go_ret
      exact ⟨rfl, HBEL.out⟩
set_option maxHeartbeats 1000000 in
theorem eqMarks_same (a1 a2 : Option Addr) (c1 c2 : Nat) (S : List Ly) (w : World) (hf : FitK S) (h1 : Ys w.heap.size a1 S w) (h2 : Ys w.heap.size a2 S w) :
    Calls Try.prog 13 #[.agg #[.slice a1 S.length c1], .agg #[.slice a2 S.length c2]] w fun e w' => e = .returned (.bool true) ∧ Below w.heap.size w w' := by
  have HB : Hid (Below w.heap.size w ((w.alloc (.cells #[.slice a1 S.length c1] 30)).alloc (.cells #[.slice a2 S.length c2] 30))) := (boxB w _).alloc (by simp) _
  have y0 : ((w.alloc (.cells #[.slice a1 S.length c1] 30)).alloc (.cells #[.slice a2 S.length c2] 30)).cell? ⟨w.heap.size, 0, none⟩ = some (.slice a1 S.length c1) := box_cell (heap_mid2 _ _ _) 0
  have z0 : ((w.alloc (.cells #[.slice a1 S.length c1] 30)).alloc (.cells #[.slice a2 S.length c2] 30)).cell? ⟨w.heap.size + 1, 0, none⟩ = some (.slice a2 S.length c2) := box_cell (heap_last2 _ _ _) 0
  have HC := hid (eqLayerS_same a1 a2 c1 c2 S _ hf ((h1.below HB.out).mono HB.out.size) ((h2.below HB.out).mono HB.out.size))
  clear h1 h2 hf
  generalize hW : (w.alloc (.cells #[.slice a1 S.length c1] 30)).alloc (.cells #[.slice a2 S.length c2] 30) = W at *
  go_enter Try.func13, Try.ntmps13
  go_wp2_with fail
  refine HC.out.mono ?_
  rintro e w2 ⟨rfl, hb2⟩
  have HB2 := hid (HB.out.trans (hb2.mono HB.out.size))
  clear hb2 hW y0 z0 HC HB
  go_wp2_with fail
  go_ret
  exact ⟨rfl, HB2.out⟩
end Go.Proofs.Ytiionfmpbifbcaa
