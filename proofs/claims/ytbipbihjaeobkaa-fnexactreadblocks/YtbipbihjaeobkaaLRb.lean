/- The exact law of ReadBlocks: its walk out of the contracts of the model and of the program. -/
import Derived.Test.YtbipbihjaeobkaaVRb
import Derived.Test.YtbipbihjaeobkaaVTo
import Derived.Test.YtbipbihjaeobkaaVOpen
import Derived.Deep.RegionHeld
namespace Go.Proofs.Ytbipbihjaeobkaa
set_option maxRecDepth 100000
open Go.ChangeShapes Go.WideShapes Go.ChangeAt Go.RowKit G00541
/-- function f answers so -/
def TellsReadBlocks (f : Nat) (B : List ByteArray) (F : Int) (L : List Rc) (s : Int) (at_ : Int) (long : Int) (t : ByteArray) (x : Bool) : Prop := ∀ (aB aL : Option Addr) (kB kL : Nat) (v : World), Ss v.heap.size aB B v → Rs v.heap.size aL L v →
  Calls Try.prog f #[.agg #[.slice aB B.length kB, .int .i64 F, .slice aL L.length kL, .int .i64 s], .int .i64 at_, .int .i64 long] v fun e w' => e = .returned (.tuple #[.string t, .bool x]) ∧ Below v.heap.size v w'
set_option maxHeartbeats 8000000 in
theorem law_ReadBlocks (aB aL : Option Addr) (kB kL : Nat) (B : List ByteArray) (F : Int) (L : List Rc) (s : Int) (at_ : Int) (long : Int) (w : World) (hzB : ∀ s ∈ B, s.size ≤ 9223372036854775807) (hnB : B.length ≤ 9223372036854775807) (hz : ∀ r ∈ L, r.data.length ≤ 9223372036854775807) (hn : L.length ≤ 9223372036854775807)
    (hB : Ss w.heap.size aB B w) (hL : Rs w.heap.size aL L w)
    (H : FitV B L → ∃ (t : ByteArray) (x : Bool), TellsReadBlocks 31 B F L s at_ long t x ∧ TellsReadBlocks 32 B F L s at_ long t x) :
    Calls Try.prog 7 #[.agg #[.slice aB B.length kB, .int .i64 F, .slice aL L.length kL, .int .i64 s], .int .i64 at_, .int .i64 long] w fun e w' => e = .returned (.bool true) ∧ Below w.heap.size w w' := by
  have HH : Hid (FitV B L → ∃ (t : ByteArray) (x : Bool), TellsReadBlocks 31 B F L s at_ long t x ∧ TellsReadBlocks 32 B F L s at_ long t x) := H
  obtain ⟨w0, hw0⟩ : ∃ w0, w0 = w.alloc (.cells #[.slice aB B.length kB, .int .i64 F, .slice aL L.length kL, .int .i64 s] 32) := ⟨_, rfl⟩
  have HB0 : Hid (Below w.heap.size w w0) := by show Below w.heap.size w w0; rw [hw0]; exact boxB w _
  have HZ : Hid (∀ v, Below w0.heap.size w0 v → Ss v.heap.size aB B v ∧ Rs v.heap.size aL L v) := fun v g => by
    have g' := HB0.out.trans (g.mono HB0.out.size)
    exact ⟨(hB.below g').mono g'.size, (hL.below g').mono g'.size⟩
  have HX : Hid (∀ v, Below w0.heap.size w0 v → v.cell? ⟨w.heap.size, 0, none⟩ = some (.slice aB B.length kB) ∧ v.cell? ⟨w.heap.size, 1, none⟩ = some (.int .i64 F) ∧ v.cell? ⟨w.heap.size, 2, none⟩ = some (.slice aL L.length kL) ∧ v.cell? ⟨w.heap.size, 3, none⟩ = some (.int .i64 s)) := fun v g => by
    have hc : ∀ i, v.cell? ⟨w.heap.size, i, none⟩ = w0.cell? ⟨w.heap.size, i, none⟩ := fun i => g.cell (p := ⟨w.heap.size, i, none⟩) (by show w.heap.size < w0.heap.size; rw [hw0]; simp)
    exact ⟨by rw [hc, hw0]; go_simp, by rw [hc, hw0]; go_simp, by rw [hc, hw0]; go_simp, by rw [hc, hw0]; go_simp⟩
  have HSZ : Hid (∀ v, Below w0.heap.size w0 v → Calls Try.prog 14 #[.agg #[.slice aB B.length kB, .int .i64 F, .slice aL L.length kL, .int .i64 s], .int .i64 1048576] v fun e w' => (∃ r : Int, e = .returned (.int .i64 r) ∧ r ≤ 1048576 ∧ (0 ≤ r → FitV B L)) ∧ Below v.heap.size v w') := fun v g => szVolume_any aB aL kB kL B F L s v hzB hnB hz hn (HZ.out v g).1 (HZ.out v g).2
  have HTO : Hid (FitV B L → ∀ v, Below w0.heap.size w0 v → Calls Try.prog 16 #[.agg #[.slice aB B.length kB, .int .i64 F, .slice aL L.length kL, .int .i64 s]] v fun e w' => ∃ bB cB bL cL, e = .returned (.agg #[.slice bB B.length cB, .int .i64 F, .slice bL L.length cL, .int .i64 s]) ∧ OwnV v.heap.size w'.heap.size bB B bL L w' ∧ Below v.heap.size v w') := fun f v g => toVolume_any aB aL kB kL B F L s v f (HZ.out v g).1 (HZ.out v g).2
  have W0 : Hid (w0 = w.alloc (.cells #[.slice aB B.length kB, .int .i64 F, .slice aL L.length kL, .int .i64 s] 32)) := hw0
  clear hB hL H hw0 hz hzB hn hnB
  have B0 : Hid (Below w0.heap.size w0 w0) := Below.refl _ _
  go_enter Try.func7, Try.ntmps7
  go_wp2_with fail
  rw [← W0.out]
  refine (HSZ.out _ B0.out).mono ?_
  rintro e w1 ⟨⟨r, rfl, -, hr⟩, g1⟩
  have HR := hid hr
  have B1 : Hid (Below w0.heap.size w0 w1) := g1
  clear hr g1 HSZ
  by_cases p0 : 0 ≤ r
  case neg =>
    have hd0 : decide (r < 0) = true := by simp; omega
    clear HR
    go_wp2
    go_ret
    exact ⟨rfl, HB0.out.trans (B1.out.mono HB0.out.size)⟩
  have hd0 : decide (r < 0) = false := by simp; omega
  have HF := hid (HR.out p0)
  have HT := hid (HTO.out HF.out)
  obtain ⟨t, x, h9, h11⟩ := HH.out HF.out
  have H9 : Hid (TellsReadBlocks 31 B F L s at_ long t x) := h9
  have H11 : Hid (TellsReadBlocks 32 B F L s at_ long t x) := h11
  clear h9 h11 HH HR HTO
  obtain ⟨x0, x1, x2, x3⟩ := HX.out _ B1.out
  go_wp2_with fail
  refine (HT.out _ B1.out).mono ?_
  rintro e w2 ⟨b2, c2, d2, e2, rfl, o2, g2⟩
  have B2 : Hid (Below w0.heap.size w0 w2) := B1.out.trans (g2.mono B1.out.size)
  have C2 := hid (H9.out b2 d2 c2 e2 _ o2.read.1 o2.read.2)
  clear o2 g2 x0 x1 x2 x3
  go_wp2_with fail
  refine C2.out.mono ?_
  rintro e w3 ⟨rfl, g3⟩
  have B3 : Hid (Below w0.heap.size w0 w3) := B2.out.trans (g3.mono B2.out.size)
  clear g3 C2 B2 H9
  obtain ⟨x0, x1, x2, x3⟩ := HX.out _ B3.out
  go_wp2_with fail
  refine (HT.out _ B3.out).mono ?_
  rintro e w4 ⟨b4, c4, d4, e4, rfl, o4, g4⟩
  have B4 : Hid (Below w0.heap.size w0 w4) := B3.out.trans (g4.mono B3.out.size)
  have O4 := hid o4
  clear o4 g4 x0 x1 x2 x3
  go_wp2_with fail
  have G5 : Hid (Below w4.heap.size w4 (w4.alloc (.cells #[.slice b4 B.length c4, .int .i64 F, .slice d4 L.length e4, .int .i64 s] 25))) := boxB _ _
  have y0 : (w4.alloc (.cells #[.slice b4 B.length c4, .int .i64 F, .slice d4 L.length e4, .int .i64 s] 25)).cell? ⟨w4.heap.size, 0, none⟩ = some (.slice b4 B.length c4) := by go_simp
  have y1 : (w4.alloc (.cells #[.slice b4 B.length c4, .int .i64 F, .slice d4 L.length e4, .int .i64 s] 25)).cell? ⟨w4.heap.size, 1, none⟩ = some (.int .i64 F) := by go_simp
  have y2 : (w4.alloc (.cells #[.slice b4 B.length c4, .int .i64 F, .slice d4 L.length e4, .int .i64 s] 25)).cell? ⟨w4.heap.size, 2, none⟩ = some (.slice d4 L.length e4) := by go_simp
  have y3 : (w4.alloc (.cells #[.slice b4 B.length c4, .int .i64 F, .slice d4 L.length e4, .int .i64 s] 25)).cell? ⟨w4.heap.size, 3, none⟩ = some (.int .i64 s) := by go_simp
  have hsz5 : (w4.alloc (.cells #[.slice b4 B.length c4, .int .i64 F, .slice d4 L.length e4, .int .i64 s] 25)).heap.size = w4.heap.size + 1 := heap_size _ _
  generalize hw5 : w4.alloc (.cells #[.slice b4 B.length c4, .int .i64 F, .slice d4 L.length e4, .int .i64 s] 25) = w5 at *
  have O5 := hid (O4.out.below G5.out)
  have B5 : Hid (Below w0.heap.size w0 w5) := B4.out.trans (G5.out.mono B4.out.size)
  have C5 := hid (H11.out b4 d4 c4 e4 _ O5.out.read.1 O5.out.read.2)
  clear hw5 O4 G5 B4 H11
  go_wp2_with fail
  refine C5.out.mono ?_
  rintro e w6 ⟨rfl, g6⟩
  have B6 : Hid (Below w0.heap.size w0 w6) := B5.out.trans (g6.mono B5.out.size)
  have O6 := hid (O5.out.below g6)
  rw [← g6.cell (p := ⟨w4.heap.size, 0, none⟩) (show w4.heap.size < w5.heap.size by omega)] at y0
  rw [← g6.cell (p := ⟨w4.heap.size, 1, none⟩) (show w4.heap.size < w5.heap.size by omega)] at y1
  rw [← g6.cell (p := ⟨w4.heap.size, 2, none⟩) (show w4.heap.size < w5.heap.size by omega)] at y2
  rw [← g6.cell (p := ⟨w4.heap.size, 3, none⟩) (show w4.heap.size < w5.heap.size by omega)] at y3
  have hs6 : w4.heap.size < w6.heap.size := by have := g6.size; omega
  clear g6 C5 O5 B5
  have HBd : Hid (Below w0.heap.size w0 w6.drew) := B6.out.drew
  obtain ⟨x0, x1, x2, x3⟩ := HX.out _ HBd.out
  have y0d : w6.drew.cell? ⟨w4.heap.size, 0, none⟩ = some (.slice b4 B.length c4) := y0
  have y1d : w6.drew.cell? ⟨w4.heap.size, 1, none⟩ = some (.int .i64 F) := y1
  have y2d : w6.drew.cell? ⟨w4.heap.size, 2, none⟩ = some (.slice d4 L.length e4) := y2
  have y3d : w6.drew.cell? ⟨w4.heap.size, 3, none⟩ = some (.int .i64 s) := y3
  have HCd := hid (HT.out _ HBd.out)
  have HEQ : Hid (∀ v (bB bL : Option Addr) (cB cL : Nat), Below w6.heap.size w6 v → Ss v.heap.size bB B v → Rs v.heap.size bL L v → Calls Try.prog 11 #[.agg #[.slice b4 B.length c4, .int .i64 F, .slice d4 L.length e4, .int .i64 s], .agg #[.slice bB B.length cB, .int .i64 F, .slice bL L.length cL, .int .i64 s]] v fun e w' => e = .returned (.bool true) ∧ Below v.heap.size v w') := fun v bB bL cB cL g h1 h2 => eqVolume_same b4 d4 bB bL c4 e4 cB cL B F L s v HF.out (O6.out.below g).read.1 (O6.out.below g).read.2 h1 h2
  go_wp2_with fail
  go_region_held (fun v => (v.cell? ⟨w4.heap.size, 0, none⟩ = some (.slice b4 B.length c4) ∧ v.cell? ⟨w4.heap.size, 1, none⟩ = some (.int .i64 F) ∧ v.cell? ⟨w4.heap.size, 2, none⟩ = some (.slice d4 L.length e4) ∧ v.cell? ⟨w4.heap.size, 3, none⟩ = some (.int .i64 s)) ∧ v.cell? ⟨w.heap.size, 0, none⟩ = some (.slice aB B.length kB) ∧ v.cell? ⟨w.heap.size, 1, none⟩ = some (.int .i64 F) ∧ v.cell? ⟨w.heap.size, 2, none⟩ = some (.slice aL L.length kL) ∧ v.cell? ⟨w.heap.size, 3, none⟩ = some (.int .i64 s)) (first | exact ⟨⟨by assumption, by assumption, by assumption, by assumption⟩, by assumption, by assumption, by assumption, by assumption⟩) (first | (go_at_call 16; refine HCd.out.mono ?_; rintro e w7 ⟨b7, c7, d7, e7, rfl, o7, g7⟩; have s7 := g7.size; have z0 := (g7.cell (p := ⟨w4.heap.size, 0, none⟩) hs6).trans y0; have z1 := (g7.cell (p := ⟨w4.heap.size, 1, none⟩) hs6).trans y1; have z2 := (g7.cell (p := ⟨w4.heap.size, 2, none⟩) hs6).trans y2; have z3 := (g7.cell (p := ⟨w4.heap.size, 3, none⟩) hs6).trans y3; have B7 : Hid (Below w0.heap.size w0 w7) := HBd.out.trans (g7.mono HBd.out.size); obtain ⟨z4, z5, z6, z7⟩ := HX.out _ B7.out) | (go_at_call 11; refine (HEQ.out w7 _ _ _ _ ⟨g7.os, g7.tape, g7.output, g7.size, g7.block⟩ o7.read.1 o7.read.2).mono ?_; rintro e w8 ⟨rfl, g8⟩; have t0 := (g8.cell (p := ⟨w4.heap.size, 0, none⟩) (show w4.heap.size < w7.heap.size from Nat.lt_of_lt_of_le hs6 s7)).trans z0; have t1 := (g8.cell (p := ⟨w4.heap.size, 1, none⟩) (show w4.heap.size < w7.heap.size from Nat.lt_of_lt_of_le hs6 s7)).trans z1; have t2 := (g8.cell (p := ⟨w4.heap.size, 2, none⟩) (show w4.heap.size < w7.heap.size from Nat.lt_of_lt_of_le hs6 s7)).trans z2; have t3 := (g8.cell (p := ⟨w4.heap.size, 3, none⟩) (show w4.heap.size < w7.heap.size from Nat.lt_of_lt_of_le hs6 s7)).trans z3; have B8 : Hid (Below w0.heap.size w0 w8) := B7.out.trans (g8.mono B7.out.size); obtain ⟨t4, t5, t6, t7⟩ := HX.out _ B8.out))
  all_goals
    clear x0 x1 x2 x3 y0 y1 y2 y3 y0d y1d y2d y3d z0 z1 z2 z3 z4 z5 z6 z7 t0 t1 t2 t3 t4 t5 t6 t7 o7 g7 g8 HBd HCd HEQ
    go_wp2
    go_ret
    exact ⟨rfl, HB0.out.trans (B8.out.mono HB0.out.size)⟩
theorem walk_ReadBlocks (aB aL : Option Addr) (kB kL : Nat) (B : List ByteArray) (F : Int) (L : List Rc) (s : Int) (at_ long : Int) (w : World) (_hF : fit F) (_hs : fit s) (hzB : ∀ s ∈ B, s.size ≤ 9223372036854775807) (hnB : B.length ≤ 9223372036854775807) (hz : ∀ r ∈ L, r.data.length ≤ 9223372036854775807) (hn : L.length ≤ 9223372036854775807) (hB : Ss w.heap.size aB B w) (hL : Rs w.heap.size aL L w) (_h1 : fit at_) (_h2 : fit long) : Calls Try.prog 7 #[.agg #[.slice aB B.length kB, .int .i64 F, .slice aL L.length kL, .int .i64 s], .int .i64 at_, .int .i64 long] w fun e w' => e = .returned (.bool true) ∧ Below w.heap.size w w' :=
  law_ReadBlocks aB aL kB kL B F L s at_ long w hzB hnB hz hn hB hL fun hf => ⟨_, _, fun aB aL kB kL v h1 h2 => sread_any aB aL kB kL B F L s at_ long v hf h1 h2, fun aB aL kB kL v h1 h2 => iread_any aB aL kB kL B F L s at_ long v hf h1 h2⟩
end Go.Proofs.Ytbipbihjaeobkaa
