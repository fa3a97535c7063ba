/- The exact law of ReadAt: its walk out of the contracts of the model and of the program. -/
import Derived.Test.YtndcnilkibfbpaaKReadS
import Derived.Test.YtndcnilkibfbpaaKTo
import Derived.Test.YtndcnilkibfbpaaKOpen
import Derived.Deep.RegionHeld
namespace Go.Proofs.Ytndcnilkibfbpaa
set_option maxRecDepth 100000
open Go Go.ChangeShapes Go.WideShapes Go.ChangeAt Go.RowKit
/-- function f answers so -/
def TellsReadAt (f : Nat) (S : List Ly) (n1 : Int) (n2 : Int) (t : ByteArray) (x : Bool) : Prop := ∀ (a : Option Addr) (k : Nat) (v : World), Ys v.heap.size a S v → S.length ≤ k →
  Calls Try.prog f #[.agg #[.slice a S.length k], .int .i64 n1, .int .i64 n2] v fun e w' => e = .returned (.tuple #[.string t, .bool x]) ∧ Below v.heap.size v w'
set_option maxHeartbeats 8000000 in
theorem law_ReadAt (a : Option Addr) (k : Nat) (S : List Ly) (n1 : Int) (n2 : Int) (w : World) (hn : S.length ≤ 9223372036854775807) (hz : ∀ s ∈ S, cntY s) (hG : Ys w.heap.size a S w)
    (H : FitK S → ∃ (t : ByteArray) (x : Bool), TellsReadAt 22 S n1 n2 t x ∧ TellsReadAt 23 S n1 n2 t x) :
    Calls Try.prog 7 #[.agg #[.slice a S.length k], .int .i64 n1, .int .i64 n2] w fun e w' => e = .returned (.bool true) ∧ Below w.heap.size w w' := by
  have HH : Hid (FitK S → ∃ (t : ByteArray) (x : Bool), TellsReadAt 22 S n1 n2 t x ∧ TellsReadAt 23 S n1 n2 t x) := H
  obtain ⟨w0, hw0⟩ : ∃ w0, w0 = w.alloc (.cells #[.slice a S.length k] 32) := ⟨_, rfl⟩
  have HB0 : Hid (Below w.heap.size w w0) := by show Below w.heap.size w w0; rw [hw0]; exact boxB w _
  have HZ : Hid (∀ v, Below w0.heap.size w0 v → Ys v.heap.size a S v) := fun v g => by
    have g' := HB0.out.trans (g.mono HB0.out.size)
    exact (hG.below g').mono g'.size
  have HX : Hid (∀ v, Below w0.heap.size w0 v → v.cell? ⟨w.heap.size, 0, none⟩ = some (.slice a S.length k)) := fun v g => by
    have hc : ∀ i, v.cell? ⟨w.heap.size, i, none⟩ = w0.cell? ⟨w.heap.size, i, none⟩ := fun i => g.cell (p := ⟨w.heap.size, i, none⟩) (by show w.heap.size < w0.heap.size; rw [hw0]; simp)
    rw [hc, hw0]; exact box_cell (heap_last _ _) 0
  have HSZ : Hid (∀ v, Below w0.heap.size w0 v → Calls Try.prog 14 #[.agg #[.slice a S.length k], .int .i64 1048576] v fun e w' => (∃ r : Int, e = .returned (.int .i64 r) ∧ (0 ≤ r → FitK S)) ∧ Below v.heap.size v w') := fun v g => szMarks_l a k S v hn hz (HZ.out v g)
  have HTO : Hid (FitK S → ∀ v, Below w0.heap.size w0 v → Calls Try.prog 16 #[.agg #[.slice a S.length k]] v fun e w' => ∃ b c, e = .returned (.agg #[.slice b S.length c]) ∧ OwnK v.heap.size w'.heap.size b S w' ∧ Below v.heap.size v w' ∧ S.length ≤ c) := fun f v g => toMarks_any a k S v f (HZ.out v g)
  have W0 : Hid (w0 = w.alloc (.cells #[.slice a S.length k] 32)) := hw0
  clear hG H hw0 hz hn
  have B0 : Hid (Below w0.heap.size w0 w0) := Below.refl _ _
  go_enter Try.func7, Try.ntmps7
  go_wp2_with fail
  rw [← W0.out]
  refine (HSZ.out _ B0.out).mono ?_
  rintro e w1 ⟨⟨r, rfl, hr⟩, g1⟩
  have HR := hid hr
  have B1 : Hid (Below w0.heap.size w0 w1) := g1
  clear hr g1 HSZ
  by_cases p0 : 0 ≤ r
  case neg =>
    have hd0 : decide (r < 0) = true := by simp; omega
    clear HR
    go_wp2
    go_ret
    exact ⟨rfl, HB0.out.trans (B1.out.mono HB0.out.size)⟩
  have hd0 : decide (r < 0) = false := by simp; omega
  have HF := hid (HR.out p0)
  have HT := hid (HTO.out HF.out)
  obtain ⟨t, x, h9, h11⟩ := HH.out HF.out
  have H9 : Hid (TellsReadAt 22 S n1 n2 t x) := h9
  have H11 : Hid (TellsReadAt 23 S n1 n2 t x) := h11
  clear h9 h11 HH HR HTO
  have x0 := HX.out _ B1.out
  go_wp2_with fail
  refine (HT.out _ B1.out).mono ?_
  rintro e w2 ⟨b2, c2, rfl, o2, g2, k2⟩
  have B2 : Hid (Below w0.heap.size w0 w2) := B1.out.trans (g2.mono B1.out.size)
  have C2 := hid (H9.out b2 c2 _ o2.ys k2)
  clear o2 g2 x0 k2
  go_wp2_with fail
  refine C2.out.mono ?_
  rintro e w3 ⟨rfl, g3⟩
  have B3 : Hid (Below w0.heap.size w0 w3) := B2.out.trans (g3.mono B2.out.size)
  clear g3 C2 B2 H9
  have x0 := HX.out _ B3.out
  go_wp2_with fail
  refine (HT.out _ B3.out).mono ?_
  rintro e w4 ⟨b4, c4, rfl, o4, g4, k4⟩
  have B4 : Hid (Below w0.heap.size w0 w4) := B3.out.trans (g4.mono B3.out.size)
  have O4 := hid o4
  have K4 := hid k4
  clear o4 g4 x0 k4
  go_wp2_with fail
  have G5 : Hid (Below w4.heap.size w4 (w4.alloc (.cells #[.slice b4 S.length c4] 24))) := boxB _ _
  have y0 : (w4.alloc (.cells #[.slice b4 S.length c4] 24)).cell? ⟨w4.heap.size, 0, none⟩ = some (.slice b4 S.length c4) := box_cell (heap_last _ _) 0
  have hsz5 : (w4.alloc (.cells #[.slice b4 S.length c4] 24)).heap.size = w4.heap.size + 1 := heap_size _ _
  generalize hw5 : w4.alloc (.cells #[.slice b4 S.length c4] 24) = w5 at *
  have O5 := hid (O4.out.on G5.out)
  have B5 : Hid (Below w0.heap.size w0 w5) := B4.out.trans (G5.out.mono B4.out.size)
  have C5 := hid (H11.out b4 c4 _ O5.out.ys K4.out)
  clear hw5 O4 G5 B4 H11
  go_wp2_with fail
  refine C5.out.mono ?_
  rintro e w6 ⟨rfl, g6⟩
  have B6 : Hid (Below w0.heap.size w0 w6) := B5.out.trans (g6.mono B5.out.size)
  have O6 := hid (O5.out.on g6)
  rw [← g6.cell (p := ⟨w4.heap.size, 0, none⟩) (show w4.heap.size < w5.heap.size by omega)] at y0
  have hs6 : w4.heap.size < w6.heap.size := by have := g6.size; omega
  clear g6 C5 O5 B5
  have HBd : Hid (Below w0.heap.size w0 w6.drew) := B6.out.drew
  have x0 := HX.out _ HBd.out
  have y0d : w6.drew.cell? ⟨w4.heap.size, 0, none⟩ = some (.slice b4 S.length c4) := y0
  have HCd := hid (HT.out _ HBd.out)
  have HEQ : Hid (∀ v (b : Option Addr) (c : Nat), Below w6.heap.size w6 v → Ys v.heap.size b S v → Calls Try.prog 11 #[.agg #[.slice b4 S.length c4], .agg #[.slice b S.length c]] v fun e w' => e = .returned (.bool true) ∧ Below v.heap.size v w') := fun v b c g h1 => eqMarks_same b4 b c4 c S v HF.out (O6.out.on g).ys h1
  go_wp2_with fail
  go_region_held (fun v => v.cell? ⟨w4.heap.size, 0, none⟩ = some (.slice b4 S.length c4) ∧ v.cell? ⟨w.heap.size, 0, none⟩ = some (.slice a S.length k)) (first | exact ⟨by assumption, by assumption⟩) (first | (go_at_call 16; refine HCd.out.mono ?_; rintro e w7 ⟨b7, c7, rfl, o7, g7, -⟩; have s7 := g7.size; have z0 := (g7.cell (p := ⟨w4.heap.size, 0, none⟩) hs6).trans y0; have B7 : Hid (Below w0.heap.size w0 w7) := HBd.out.trans (g7.mono HBd.out.size); have z4 := HX.out _ B7.out) | (go_at_call 11; refine (HEQ.out w7 _ _ ⟨g7.os, g7.tape, g7.output, g7.size, g7.block⟩ o7.ys).mono ?_; rintro e w8 ⟨rfl, g8⟩; have t0 := (g8.cell (p := ⟨w4.heap.size, 0, none⟩) (show w4.heap.size < w7.heap.size from Nat.lt_of_lt_of_le hs6 s7)).trans z0; have B8 : Hid (Below w0.heap.size w0 w8) := B7.out.trans (g8.mono B7.out.size); have t4 := HX.out _ B8.out))
  all_goals
    clear x0 y0 y0d z0 z4 t0 t4 o7 g7 g8 HBd HCd HEQ
    go_wp2
    go_ret
    exact ⟨rfl, HB0.out.trans (B8.out.mono HB0.out.size)⟩
end Go.Proofs.Ytndcnilkibfbpaa
