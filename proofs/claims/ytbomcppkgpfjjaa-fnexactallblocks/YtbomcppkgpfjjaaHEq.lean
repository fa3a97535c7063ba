/- Walks of the laws' own compare of heaps. -/
import Derived.Test.YtbomcppkgpfjjaaHRoom
import Derived.Deep.RegionWith
namespace Go.Proofs.Ytbomcppkgpfjjaa
set_option maxRecDepth 100000
open Go.ChangeShapes Go.WideShapes Go.ChangeAt Go.RowKit G00541
set_option maxHeartbeats 400000 in
theorem eqSeg_same (p1 p2 : Option Addr) (c1 c2 : Nat) (l : List Int) (age : Int) (w : World) (hn : l.length ≤ 1048576) (h1 : Is w.heap.size p1 l w) (h2 : Is w.heap.size p2 l w) :
    Calls Try.prog 36 #[.agg #[.slice p1 l.length c1, .int .i64 age], .agg #[.slice p2 l.length c2, .int .i64 age]] w fun e w' => e = .returned (.bool true) ∧ Below w.heap.size w w' := by
  have HB : Hid (Below w.heap.size w ((w.alloc (.cells #[.slice p1 l.length c1, .int .i64 age] 43)).alloc (.cells #[.slice p2 l.length c2, .int .i64 age] 43))) := (boxB w _).alloc (by simp) _
  have HC := hid (eqIntS_same p1 p2 c1 c2 l _ hn ((h1.below HB.out).mono HB.out.size) ((h2.below HB.out).mono HB.out.size))
  have y0 : ((w.alloc (.cells #[.slice p1 l.length c1, .int .i64 age] 43)).alloc (.cells #[.slice p2 l.length c2, .int .i64 age] 43)).cell? ⟨w.heap.size, 0, none⟩ = some (.slice p1 l.length c1) := by go_simp
  have y1 : ((w.alloc (.cells #[.slice p1 l.length c1, .int .i64 age] 43)).alloc (.cells #[.slice p2 l.length c2, .int .i64 age] 43)).cell? ⟨w.heap.size, 1, none⟩ = some (.int .i64 age) := by go_simp
  have z0 : ((w.alloc (.cells #[.slice p1 l.length c1, .int .i64 age] 43)).alloc (.cells #[.slice p2 l.length c2, .int .i64 age] 43)).cell? ⟨w.heap.size + 1, 0, none⟩ = some (.slice p2 l.length c2) := by go_simp
  have z1 : ((w.alloc (.cells #[.slice p1 l.length c1, .int .i64 age] 43)).alloc (.cells #[.slice p2 l.length c2, .int .i64 age] 43)).cell? ⟨w.heap.size + 1, 1, none⟩ = some (.int .i64 age) := by go_simp
  have hsz : w.heap.size + 1 < ((w.alloc (.cells #[.slice p1 l.length c1, .int .i64 age] 43)).alloc (.cells #[.slice p2 l.length c2, .int .i64 age] 43)).heap.size := by simp
  clear h1 h2
  generalize hW : (w.alloc (.cells #[.slice p1 l.length c1, .int .i64 age] 43)).alloc (.cells #[.slice p2 l.length c2, .int .i64 age] 43) = W at *
  go_enter Try.func36, Try.ntmps36
  go_wp2_with fail
  refine HC.out.mono ?_
  rintro e w2 ⟨rfl, hb2⟩
  have HB2 := hid (HB.out.trans (hb2.mono HB.out.size))
  rw [← hb2.cell (p := ⟨w.heap.size, 1, none⟩) (show w.heap.size < W.heap.size by omega)] at y1
  rw [← hb2.cell (p := ⟨w.heap.size + 1, 1, none⟩) hsz] at z1
  clear hb2 hW y0 z0 HC hsz
  go_wp2_with fail
  go_ret
  exact ⟨rfl, HB2.out⟩
set_option maxHeartbeats 2000000 in
theorem eqSegS_same (a1 a2 : Option Addr) (c1 c2 : Nat) (S : List Sg) (w : World) (hn : S.length ≤ 1048576) (hf : ∀ k (h : k < S.length), S[k].bl.length ≤ 1048576) (h1 : Gs w.heap.size a1 S w) (h2 : Gs w.heap.size a2 S w) :
    Calls Try.prog 22 #[.slice a1 S.length c1, .slice a2 S.length c2] w fun e w' => e = .returned (.bool true) ∧ Below w.heap.size w w' := by
  have H1 := hid h1
  have H2 := hid h2
  have HF := hid hf
  clear h1 h2 hf
  go_enter Try.func22, Try.ntmps22
  go_wp2_with fail
  go_loopw [5] (fun i wr => ∃ k : Nat, k ≤ S.length ∧ i = .int .i64 k ∧ Below w.heap.size w wr) (fun i _ => S.length - (intOf i).toNat)
  case atStart => exact ⟨0, Nat.zero_le _, rfl, Below.refl _ _⟩
  case round =>
    obtain ⟨k, hk, rfl, hbel⟩ := hrel
    have HBEL := hid hbel
    by_cases hlt : k < S.length
    · obtain ⟨b1, o1, rfl, hb1, hc1⟩ := H1.out (by omega)
      obtain ⟨b2, o2, rfl, hb2, hc2⟩ := H2.out (by omega)
      obtain ⟨p, c, x0, x1, hI⟩ := hc1 k hlt
      obtain ⟨p', c', y0, y1, hJ⟩ := hc2 k hlt
      rw [← hbel.cell (p := ⟨b1, o1 + k * 2, none⟩) hb1] at x0
      rw [← hbel.cell (p := ⟨b1, o1 + k * 2 + 1, none⟩) hb1] at x1
      rw [← hbel.cell (p := ⟨b2, o2 + k * 2, none⟩) hb2] at y0
      rw [← hbel.cell (p := ⟨b2, o2 + k * 2 + 1, none⟩) hb2] at y1
      have hm := HF.out k hlt
      generalize S[k] = s at *
      obtain ⟨l, age⟩ := s
      simp only at x0 x1 y0 y1 hI hJ hm
      have hw := HBEL.out.drew
      have HC := hid (eqSeg_same p p' c c' l age wr.drew hm ((hI.below hw).mono hw.size) ((hJ.below hw).mono hw.size))
      clear hw
      clear hc1 hc2 hbel hI hJ
      go_wp2_with fail
      go_region_with (go_at_call 36; refine HC.out.mono ?_; rintro e w9 ⟨rfl, b9⟩)
      all_goals
        have HB9 : Hid (Below w.heap.size w w9) := HBEL.out.trans ((show Below wr.heap.size wr w9 from ⟨b9.os, b9.tape, b9.output, b9.size, b9.block⟩).mono HBEL.out.size)
        clear b9
        go_wp2
        go_roundw
        · exact ⟨k + 1, by omega, by go_num, HB9.out⟩
        · simp [intOf]; omega
    · clear hbel
      go_wp2
      go_ret
      exact ⟨rfl, HBEL.out⟩
set_option maxHeartbeats 2000000 in
theorem eqBoolSS_same (a1 a2 : Option Addr) (c1 c2 : Nat) (L : List (List Bool)) (w : World) (hn : L.length ≤ 1048576) (hf : ∀ k (h : k < L.length), L[k].length ≤ 1048576) (h1 : Vs w.heap.size a1 L w) (h2 : Vs w.heap.size a2 L w) :
    Calls Try.prog 23 #[.slice a1 L.length c1, .slice a2 L.length c2] w fun e w' => e = .returned (.bool true) ∧ Below w.heap.size w w' := by
  have H1 := hid h1
  have H2 := hid h2
  have HF := hid hf
  clear h1 h2 hf
  go_enter Try.func23, Try.ntmps23
  go_wp2_with fail
  go_loopw [5] (fun i wr => ∃ k : Nat, k ≤ L.length ∧ i = .int .i64 k ∧ Below w.heap.size w wr) (fun i _ => L.length - (intOf i).toNat)
  case atStart => exact ⟨0, Nat.zero_le _, rfl, Below.refl _ _⟩
  case round =>
    obtain ⟨k, hk, rfl, hbel⟩ := hrel
    have HBEL := hid hbel
    by_cases hlt : k < L.length
    · obtain ⟨b1, o1, rfl, hb1, hc1⟩ := H1.out (by omega)
      obtain ⟨b2, o2, rfl, hb2, hc2⟩ := H2.out (by omega)
      obtain ⟨p, c, x0, hI⟩ := hc1 k hlt
      obtain ⟨p', c', y0, hJ⟩ := hc2 k hlt
      rw [← hbel.cell (p := ⟨b1, o1 + k, none⟩) hb1] at x0
      rw [← hbel.cell (p := ⟨b2, o2 + k, none⟩) hb2] at y0
      have hm := HF.out k hlt
      generalize L[k] = l at *
      have hw := HBEL.out.drew
      have HC := hid (eqBoolS_same p p' c c' l wr.drew hm ((hI.below hw).mono hw.size) ((hJ.below hw).mono hw.size))
      clear hw
      clear hc1 hc2 hbel hI hJ
      go_wp2_with fail
      go_region_with (go_at_call 37; refine HC.out.mono ?_; rintro e w9 ⟨rfl, b9⟩)
      all_goals
        have HB9 : Hid (Below w.heap.size w w9) := HBEL.out.trans ((show Below wr.heap.size wr w9 from ⟨b9.os, b9.tape, b9.output, b9.size, b9.block⟩).mono HBEL.out.size)
        clear b9
        go_wp2
        go_roundw
        · exact ⟨k + 1, by omega, by go_num, HB9.out⟩
        · simp [intOf]; omega
    · clear hbel
      go_wp2
      go_ret
      exact ⟨rfl, HBEL.out⟩
set_option maxHeartbeats 1000000 in
theorem eqHeap_same (aS aL aS' aL' : Option Addr) (kS kL kS' kL' : Nat) (S : List Sg) (L : List (List Bool)) (w : World) (h1 : S.length ≤ 1048576) (h2 : ∀ k (h : k < S.length), S[k].bl.length ≤ 1048576) (h3 : L.length ≤ 1048576) (h4 : ∀ k (h : k < L.length), L[k].length ≤ 1048576)
    (hG : Gs w.heap.size aS S w) (hV : Vs w.heap.size aL L w) (hG' : Gs w.heap.size aS' S w) (hV' : Vs w.heap.size aL' L w) :
    Calls Try.prog 9 #[.agg #[.slice aS S.length kS, .slice aL L.length kL], .agg #[.slice aS' S.length kS', .slice aL' L.length kL']] w fun e w' => e = .returned (.bool true) ∧ Below w.heap.size w w' := by
  have HB : Hid (Below w.heap.size w ((w.alloc (.cells #[.slice aS S.length kS, .slice aL L.length kL] 32)).alloc (.cells #[.slice aS' S.length kS', .slice aL' L.length kL'] 32))) := (boxB w _).alloc (by simp) _
  have y0 : ((w.alloc (.cells #[.slice aS S.length kS, .slice aL L.length kL] 32)).alloc (.cells #[.slice aS' S.length kS', .slice aL' L.length kL'] 32)).cell? ⟨w.heap.size, 0, none⟩ = some (.slice aS S.length kS) := by go_simp
  have y1 : ((w.alloc (.cells #[.slice aS S.length kS, .slice aL L.length kL] 32)).alloc (.cells #[.slice aS' S.length kS', .slice aL' L.length kL'] 32)).cell? ⟨w.heap.size, 1, none⟩ = some (.slice aL L.length kL) := by go_simp
  have z0 : ((w.alloc (.cells #[.slice aS S.length kS, .slice aL L.length kL] 32)).alloc (.cells #[.slice aS' S.length kS', .slice aL' L.length kL'] 32)).cell? ⟨w.heap.size + 1, 0, none⟩ = some (.slice aS' S.length kS') := by go_simp
  have z1 : ((w.alloc (.cells #[.slice aS S.length kS, .slice aL L.length kL] 32)).alloc (.cells #[.slice aS' S.length kS', .slice aL' L.length kL'] 32)).cell? ⟨w.heap.size + 1, 1, none⟩ = some (.slice aL' L.length kL') := by go_simp
  have hsz : w.heap.size + 1 < ((w.alloc (.cells #[.slice aS S.length kS, .slice aL L.length kL] 32)).alloc (.cells #[.slice aS' S.length kS', .slice aL' L.length kL'] 32)).heap.size := by simp
  have HV := hid hV
  have HV' := hid hV'
  have HC := hid (eqSegS_same aS aS' kS kS' S _ h1 h2 ((hG.below HB.out).mono HB.out.size) ((hG'.below HB.out).mono HB.out.size))
  have H4 := hid h4
  clear hG hV hG' hV' h2 h4
  generalize hW : (w.alloc (.cells #[.slice aS S.length kS, .slice aL L.length kL] 32)).alloc (.cells #[.slice aS' S.length kS', .slice aL' L.length kL'] 32) = W at *
  go_enter Try.func9, Try.ntmps9
  go_wp2_with fail
  refine HC.out.mono ?_
  rintro e w2 ⟨rfl, hb2⟩
  have HB2 := hid (HB.out.trans (hb2.mono HB.out.size))
  rw [← hb2.cell (p := ⟨w.heap.size, 1, none⟩) (show w.heap.size < W.heap.size by omega)] at y1
  rw [← hb2.cell (p := ⟨w.heap.size + 1, 1, none⟩) hsz] at z1
  have HC2 := hid (eqBoolSS_same aL aL' kL kL' L w2 h3 H4.out ((HV.out.below HB2.out).mono HB2.out.size) ((HV'.out.below HB2.out).mono HB2.out.size))
  clear hb2 hW y0 z0 HC hsz HV HV' HB
  go_wp2_with fail
  refine HC2.out.mono ?_
  rintro e w3 ⟨rfl, hb3⟩
  have HB3 := hid (HB2.out.trans (hb3.mono HB2.out.size))
  clear hb3 HC2 y1 z1 HB2
  go_wp2_with fail
  go_ret
  exact ⟨rfl, HB3.out⟩
end Go.Proofs.Ytbomcppkgpfjjaa
