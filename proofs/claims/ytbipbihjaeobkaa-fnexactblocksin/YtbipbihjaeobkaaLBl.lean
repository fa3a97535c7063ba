/- The exact law of BlocksIn: its walk. -/
import Derived.Test.YtbipbihjaeobkaaIIn
import Derived.Test.YtbipbihjaeobkaaVMark
import Derived.Test.YtbipbihjaeobkaaVOpen
import Derived.Deep.RegionHeld
namespace Go.Proofs.Ytbipbihjaeobkaa
set_option maxRecDepth 100000
open Go.ChangeShapes Go.WideShapes Go.ChangeAt Go.RowKit G00541
/-- function f answers the texts V and ok, in memory of its own -/
def TellsBl (f : Nat) (B : List ByteArray) (F : Int) (L : List Rc) (s : Int) (V : List ByteArray) (ok : Bool) : Prop := ∀ (aB aL : Option Addr) (kB kL : Nat) (w : World), Ss w.heap.size aB B w → Rs w.heap.size aL L w →
  Calls Try.prog f #[.agg #[.slice aB B.length kB, .int .i64 F, .slice aL L.length kL, .int .i64 s]] w fun e w' => ∃ b c, e = .returned (.tuple #[.slice b V.length c, .bool ok]) ∧ OwnS w.heap.size w'.heap.size b V w' ∧ Below w.heap.size w w'
set_option maxHeartbeats 8000000 in
theorem law_BlocksIn (aB aL : Option Addr) (kB kL : Nat) (B : List ByteArray) (F : Int) (L : List Rc) (s : Int) (w : World) (hzB : ∀ s ∈ B, s.size ≤ 9223372036854775807) (hnB : B.length ≤ 9223372036854775807) (hz : ∀ r ∈ L, r.data.length ≤ 9223372036854775807) (hn : L.length ≤ 9223372036854775807)
    (hB : Ss w.heap.size aB B w) (hL : Rs w.heap.size aL L w)
    (H : FitV B L → ∃ (V : List ByteArray) (ok : Bool), V.length ≤ 1048576 ∧ TellsBl 33 B F L s V ok ∧ TellsBl 34 B F L s V ok) :
    Calls Try.prog 8 #[.agg #[.slice aB B.length kB, .int .i64 F, .slice aL L.length kL, .int .i64 s]] w fun e w' => e = .returned (.bool true) ∧ Below w.heap.size w w' := by
  have HH : Hid (FitV B L → ∃ (V : List ByteArray) (ok : Bool), V.length ≤ 1048576 ∧ TellsBl 33 B F L s V ok ∧ TellsBl 34 B F L s V ok) := H
  obtain ⟨w0, hw0⟩ : ∃ w0, w0 = w.alloc (.cells #[.slice aB B.length kB, .int .i64 F, .slice aL L.length kL, .int .i64 s] 32) := ⟨_, rfl⟩
  have HB0 : Hid (Below w.heap.size w w0) := by show Below w.heap.size w w0; rw [hw0]; exact boxB w _
  have HZ : Hid (∀ v, Below w0.heap.size w0 v → Ss v.heap.size aB B v ∧ Rs v.heap.size aL L v) := fun v g => by
    have g' := HB0.out.trans (g.mono HB0.out.size)
    exact ⟨(hB.below g').mono g'.size, (hL.below g').mono g'.size⟩
  have HX : Hid (∀ v, Below w0.heap.size w0 v → v.cell? ⟨w.heap.size, 0, none⟩ = some (.slice aB B.length kB) ∧ v.cell? ⟨w.heap.size, 1, none⟩ = some (.int .i64 F) ∧ v.cell? ⟨w.heap.size, 2, none⟩ = some (.slice aL L.length kL) ∧ v.cell? ⟨w.heap.size, 3, none⟩ = some (.int .i64 s)) := fun v g => by
    have hc : ∀ i, v.cell? ⟨w.heap.size, i, none⟩ = w0.cell? ⟨w.heap.size, i, none⟩ := fun i => g.cell (p := ⟨w.heap.size, i, none⟩) (by show w.heap.size < w0.heap.size; rw [hw0]; simp)
    exact ⟨by rw [hc, hw0]; go_simp, by rw [hc, hw0]; go_simp, by rw [hc, hw0]; go_simp, by rw [hc, hw0]; go_simp⟩
  have HSZ : Hid (∀ v, Below w0.heap.size w0 v → Calls Try.prog 14 #[.agg #[.slice aB B.length kB, .int .i64 F, .slice aL L.length kL, .int .i64 s], .int .i64 1048576] v fun e w' => (∃ r : Int, e = .returned (.int .i64 r) ∧ r ≤ 1048576 ∧ (0 ≤ r → FitV B L)) ∧ Below v.heap.size v w') := fun v g => szVolume_any aB aL kB kL B F L s v hzB hnB hz hn (HZ.out v g).1 (HZ.out v g).2
  have HTO : Hid (FitV B L → ∀ v, Below w0.heap.size w0 v → Calls Try.prog 16 #[.agg #[.slice aB B.length kB, .int .i64 F, .slice aL L.length kL, .int .i64 s]] v fun e w' => ∃ bB cB bL cL, e = .returned (.agg #[.slice bB B.length cB, .int .i64 F, .slice bL L.length cL, .int .i64 s]) ∧ OwnV v.heap.size w'.heap.size bB B bL L w' ∧ Below v.heap.size v w') := fun f v g => toVolume_any aB aL kB kL B F L s v f (HZ.out v g).1 (HZ.out v g).2
  have W0 : Hid (w0 = w.alloc (.cells #[.slice aB B.length kB, .int .i64 F, .slice aL L.length kL, .int .i64 s] 32)) := hw0
  clear hB hL H hw0 hz hzB hn hnB
  have B0 : Hid (Below w0.heap.size w0 w0) := Below.refl _ _
  go_enter Try.func8, Try.ntmps8
  go_wp2_with fail
  rw [← W0.out]
  refine (HSZ.out _ B0.out).mono ?_
  rintro e w1 ⟨⟨r, rfl, -, hr⟩, g1⟩
  have HR := hid hr
  have B1 : Hid (Below w0.heap.size w0 w1) := g1
  clear hr g1 HSZ
  by_cases p0 : 0 ≤ r
  case neg =>
    have hd0 : decide (r < 0) = true := by simp; omega
    clear HR
    go_wp2
    go_ret
    exact ⟨rfl, HB0.out.trans (B1.out.mono HB0.out.size)⟩
  have hd0 : decide (r < 0) = false := by simp; omega
  have HF := hid (HR.out p0)
  have HT := hid (HTO.out HF.out)
  obtain ⟨V, ok, hV, h9, h11⟩ := HH.out HF.out
  have H9 : Hid (TellsBl 33 B F L s V ok) := h9
  have H11 : Hid (TellsBl 34 B F L s V ok) := h11
  clear h9 h11 HH HR HTO
  obtain ⟨x0, x1, x2, x3⟩ := HX.out _ B1.out
  go_wp2_with fail
  refine (HT.out _ B1.out).mono ?_
  rintro e w2 ⟨b2, c2, d2, e2, rfl, o2, g2⟩
  have B2 : Hid (Below w0.heap.size w0 w2) := B1.out.trans (g2.mono B1.out.size)
  have C2 := hid (H9.out b2 d2 c2 e2 _ o2.read.1 o2.read.2)
  clear o2 g2 x0 x1 x2 x3
  go_wp2_with fail
  refine C2.out.mono ?_
  rintro e w3 ⟨bw, cw, rfl, o3, g3⟩
  have HW3 : Hid (OwnS w2.heap.size w3.heap.size bw V w3) := o3
  have B3 : Hid (Below w0.heap.size w0 w3) := B2.out.trans (g3.mono B2.out.size)
  have s3 := g3.size
  have s2 := B2.out.size
  clear g3 C2 B2 H9 o3
  obtain ⟨x0, x1, x2, x3⟩ := HX.out _ B3.out
  go_wp2_with fail
  refine (HT.out _ B3.out).mono ?_
  rintro e w4 ⟨b4, c4, d4, e4, rfl, o4, g4⟩
  have B4 : Hid (Below w0.heap.size w0 w4) := B3.out.trans (g4.mono B3.out.size)
  have O4 : Hid (OwnV w3.heap.size w4.heap.size b4 B d4 L w4) := o4
  have HW4 := hid (HW3.out.below g4)
  have s4 := g4.size
  clear o4 g4 x0 x1 x2 x3 HW3 B3
  go_wp2_with fail
  have G5 : Hid (Below w4.heap.size w4 (w4.alloc (.cells #[.slice b4 B.length c4, .int .i64 F, .slice d4 L.length e4, .int .i64 s] 25))) := boxB _ _
  have y0 : (w4.alloc (.cells #[.slice b4 B.length c4, .int .i64 F, .slice d4 L.length e4, .int .i64 s] 25)).cell? ⟨w4.heap.size, 0, none⟩ = some (.slice b4 B.length c4) := by go_simp
  have y1 : (w4.alloc (.cells #[.slice b4 B.length c4, .int .i64 F, .slice d4 L.length e4, .int .i64 s] 25)).cell? ⟨w4.heap.size, 1, none⟩ = some (.int .i64 F) := by go_simp
  have y2 : (w4.alloc (.cells #[.slice b4 B.length c4, .int .i64 F, .slice d4 L.length e4, .int .i64 s] 25)).cell? ⟨w4.heap.size, 2, none⟩ = some (.slice d4 L.length e4) := by go_simp
  have y3 : (w4.alloc (.cells #[.slice b4 B.length c4, .int .i64 F, .slice d4 L.length e4, .int .i64 s] 25)).cell? ⟨w4.heap.size, 3, none⟩ = some (.int .i64 s) := by go_simp
  have K5 : Hid ((w4.alloc (.cells #[.slice b4 B.length c4, .int .i64 F, .slice d4 L.length e4, .int .i64 s] 25)).heap[w4.heap.size]? = some (.cells #[.slice b4 B.length c4, .int .i64 F, .slice d4 L.length e4, .int .i64 s] 25)) := heap_last _ _
  have hsz5 : (w4.alloc (.cells #[.slice b4 B.length c4, .int .i64 F, .slice d4 L.length e4, .int .i64 s] 25)).heap.size = w4.heap.size + 1 := heap_size _ _
  generalize hw5 : w4.alloc (.cells #[.slice b4 B.length c4, .int .i64 F, .slice d4 L.length e4, .int .i64 s] 25) = w5 at *
  have O5 := hid (O4.out.below G5.out)
  have HW5 := hid (HW4.out.below G5.out)
  have B5 : Hid (Below w0.heap.size w0 w5) := B4.out.trans (G5.out.mono B4.out.size)
  have C5 := hid (H11.out b4 d4 c4 e4 _ O5.out.read.1 O5.out.read.2)
  clear hw5 O4 G5 B4 HW4
  go_wp2_with fail
  refine C5.out.mono ?_
  rintro e w6 ⟨bg, cg, rfl, o6, g6⟩
  have B6 : Hid (Below w0.heap.size w0 w6) := B5.out.trans (g6.mono B5.out.size)
  have O6 := hid (O5.out.below g6)
  have HW6 := hid (HW5.out.below g6)
  have HG6 : Hid (OwnS w5.heap.size w6.heap.size bg V w6) := o6
  have K6 : Hid (w6.heap[w4.heap.size]? = some (.cells #[.slice b4 B.length c4, .int .i64 F, .slice d4 L.length e4, .int .i64 s] 25)) := (g6.block _ (by omega)).trans K5.out
  have s6 := g6.size
  clear g6 C5 O5 B5 o6 HW5 K5 y0 y1 y2 y3
  go_wp2_with fail
  refine (eqStringS_same bg bw cg cw V _ hV HG6.out.ss HW6.out.ss).mono ?_
  rintro e w7 ⟨rfl, g7⟩
  have s7 := g7.size
  have B7 : Hid (Below w0.heap.size w0 w7) := B6.out.trans (g7.mono B6.out.size)
  have O7 : Hid (OwnV w3.heap.size w4.heap.size b4 B d4 L w7) := O6.out.below g7
  have HW7 : Hid (OwnS w2.heap.size w3.heap.size bw V w7) := HW6.out.below g7
  have HG7 : Hid (OwnS w5.heap.size w6.heap.size bg V w7) := HG6.out.below g7
  have K7 : Hid (w7.heap[w4.heap.size]? = some (.cells #[.slice b4 B.length c4, .int .i64 F, .slice d4 L.length e4, .int .i64 s] 25)) := (g7.block _ (by omega)).trans K6.out
  clear g7 B6 O6 HW6 HG6 K6
  have HBd : Hid (Below w0.heap.size w0 w7.drew) := B7.out.drew
  obtain ⟨x0, x1, x2, x3⟩ := HX.out _ HBd.out
  have y0 : w7.cell? ⟨w4.heap.size, 0, none⟩ = some (.slice b4 B.length c4) := box_cell K7.out 0
  have y0d : w7.drew.cell? ⟨w4.heap.size, 0, none⟩ = some (.slice b4 B.length c4) := y0
  have y1 : w7.cell? ⟨w4.heap.size, 1, none⟩ = some (.int .i64 F) := box_cell K7.out 1
  have y1d : w7.drew.cell? ⟨w4.heap.size, 1, none⟩ = some (.int .i64 F) := y1
  have y2 : w7.cell? ⟨w4.heap.size, 2, none⟩ = some (.slice d4 L.length e4) := box_cell K7.out 2
  have y2d : w7.drew.cell? ⟨w4.heap.size, 2, none⟩ = some (.slice d4 L.length e4) := y2
  have y3 : w7.cell? ⟨w4.heap.size, 3, none⟩ = some (.int .i64 s) := box_cell K7.out 3
  have y3d : w7.drew.cell? ⟨w4.heap.size, 3, none⟩ = some (.int .i64 s) := y3
  have hs7 : w4.heap.size < w7.heap.size := by omega
  have HCd := hid (HT.out _ HBd.out)
  have HEQ : Hid (∀ v (bB bL : Option Addr) (cB cL : Nat), Below w7.heap.size w7 v → Ss v.heap.size bB B v → Rs v.heap.size bL L v → Calls Try.prog 11 #[.agg #[.slice b4 B.length c4, .int .i64 F, .slice d4 L.length e4, .int .i64 s], .agg #[.slice bB B.length cB, .int .i64 F, .slice bL L.length cL, .int .i64 s]] v fun e w' => e = .returned (.bool true) ∧ Below v.heap.size v w') := fun v bB bL cB cL g h1 h2 => eqVolume_same b4 d4 bB bL c4 e4 cB cL B F L s v HF.out (O7.out.below g).read.1 (O7.out.below g).read.2 h1 h2
  cases ok
  all_goals
    go_wp2_with fail
    go_region_held (fun v => (v.cell? ⟨w4.heap.size, 0, none⟩ = some (.slice b4 B.length c4) ∧ v.cell? ⟨w4.heap.size, 1, none⟩ = some (.int .i64 F) ∧ v.cell? ⟨w4.heap.size, 2, none⟩ = some (.slice d4 L.length e4) ∧ v.cell? ⟨w4.heap.size, 3, none⟩ = some (.int .i64 s)) ∧ v.cell? ⟨w.heap.size, 0, none⟩ = some (.slice aB B.length kB) ∧ v.cell? ⟨w.heap.size, 1, none⟩ = some (.int .i64 F) ∧ v.cell? ⟨w.heap.size, 2, none⟩ = some (.slice aL L.length kL) ∧ v.cell? ⟨w.heap.size, 3, none⟩ = some (.int .i64 s)) (first | exact ⟨⟨by assumption, by assumption, by assumption, by assumption⟩, by assumption, by assumption, by assumption, by assumption⟩) (first | (go_at_call 16; refine HCd.out.mono ?_; rintro e w8 ⟨b8, c8, d8, e8, rfl, o8, g8⟩; have s8 := g8.size; have z0 := (g8.cell (p := ⟨w4.heap.size, 0, none⟩) hs7).trans y0; have z1 := (g8.cell (p := ⟨w4.heap.size, 1, none⟩) hs7).trans y1; have z2 := (g8.cell (p := ⟨w4.heap.size, 2, none⟩) hs7).trans y2; have z3 := (g8.cell (p := ⟨w4.heap.size, 3, none⟩) hs7).trans y3; have B8 : Hid (Below w0.heap.size w0 w8) := HBd.out.trans (g8.mono HBd.out.size); obtain ⟨z4, z5, z6, z7⟩ := HX.out _ B8.out) | (go_at_call 11; refine (HEQ.out w8 _ _ _ _ ⟨g8.os, g8.tape, g8.output, g8.size, g8.block⟩ o8.read.1 o8.read.2).mono ?_; rintro e w9 ⟨rfl, g9⟩; have t0 := (g9.cell (p := ⟨w4.heap.size, 0, none⟩) (show w4.heap.size < w8.heap.size from Nat.lt_of_lt_of_le hs7 s8)).trans z0; have t1 := (g9.cell (p := ⟨w4.heap.size, 1, none⟩) (show w4.heap.size < w8.heap.size from Nat.lt_of_lt_of_le hs7 s8)).trans z1; have t2 := (g9.cell (p := ⟨w4.heap.size, 2, none⟩) (show w4.heap.size < w8.heap.size from Nat.lt_of_lt_of_le hs7 s8)).trans z2; have t3 := (g9.cell (p := ⟨w4.heap.size, 3, none⟩) (show w4.heap.size < w8.heap.size from Nat.lt_of_lt_of_le hs7 s8)).trans z3; have B9 : Hid (Below w0.heap.size w0 w9) := B8.out.trans (g9.mono B8.out.size); obtain ⟨t4, t5, t6, t7⟩ := HX.out _ B9.out))
    have C9 : Hid (Below w7.heap.size w7 w9) := (show Below w7.heap.size w7 w8 from ⟨g8.os, g8.tape, g8.output, g8.size, g8.block⟩).trans (g9.mono s8)
    have s9 := C9.out.size
    have O9 : Hid (OwnV w3.heap.size w4.heap.size b4 B d4 L w9) := O7.out.below C9.out
    have HW9 : Hid (OwnS w2.heap.size w3.heap.size bw V w9) := HW7.out.below C9.out
    have HG9 : Hid (OwnS w5.heap.size w6.heap.size bg V w9) := HG7.out.below C9.out
    have K9 : Hid (w9.heap[w4.heap.size]? = some (.cells #[.slice b4 B.length c4, .int .i64 F, .slice d4 L.length e4, .int .i64 s] 25)) := (C9.out.block _ hs7).trans K7.out
    clear x0 x1 x2 x3 y0 y1 y2 y3 y0d y1d y2d y3d z0 z1 z2 z3 z4 z5 z6 z7 t4 t5 t6 t7 o8 g8 g9 HBd HCd HEQ B7 B8 O7 HW7 HG7 K7 C9
    go_wp2_with fail
    refine (markVolume_any w3.heap.size w4.heap.size b4 d4 c4 e4 B F L s _ HF.out (by omega) O9.out).mono ?_
    rintro e w10 ⟨rfl, -, t10⟩
    have hm10 : decide (((1 + B.length + 4 * L.length : Nat) : Int) < 0) = false := by simp; omega
    have s10 := t10.size
    have B10 : Hid (Below w0.heap.size w0 w10) := B9.out.trans (t10.below (by omega) B9.out.size)
    have HW10 : Hid (OwnS w2.heap.size w3.heap.size bw V w10) := HW9.out.out t10 (by omega)
    have HG10 : Hid (OwnS w5.heap.size w6.heap.size bg V w10) := HG9.out.out t10 (by omega)
    clear t10 B9 HW9 HG9 O9 K9 t0 t1 t2 t3
    generalize 1 + B.length + 4 * L.length = m10 at *
    go_wp2_with fail
    refine (eqStringS_same bg bw cg cw V _ hV HG10.out.ss HW10.out.ss).mono ?_
    rintro e w11 ⟨rfl, g11⟩
    have s11 := g11.size
    have B11 : Hid (Below w0.heap.size w0 w11) := B10.out.trans (g11.mono B10.out.size)
    have HW11 : Hid (OwnS w2.heap.size w3.heap.size bw V w11) := HW10.out.below g11
    have HG11 : Hid (OwnS w5.heap.size w6.heap.size bg V w11) := HG10.out.below g11
    clear g11 B10 HW10 HG10
    go_wp2_with fail
    refine (mark_ownS _ _ bg cg V _ hV HG11.out).mono ?_
    rintro e w12 ⟨rfl, o12, t12⟩
    have hm12 : decide (((1 + V.length : Nat) : Int) < 0) = false := by simp; omega
    have B12 : Hid (Below w0.heap.size w0 w12) := B11.out.trans (t12.below (by omega) B11.out.size)
    have HW12 : Hid (OwnS w2.heap.size w3.heap.size bw V w12) := HW11.out.out t12 (by omega)
    have HG12 : Hid (OwnS w5.heap.size w6.heap.size bg (smarks V.length 1) w12) := o12
    clear o12 t12 B11 HW11 HG11
    go_wp2_with fail
    refine (held_ownS _ _ bg cg V.length _ hV HG12.out).mono ?_
    rintro e w13 ⟨rfl, g13⟩
    have B13 : Hid (Below w0.heap.size w0 w13) := B12.out.trans (g13.mono B12.out.size)
    have HW13 : Hid (OwnS w2.heap.size w3.heap.size bw V w13) := HW12.out.below g13
    have HG13 : Hid (OwnS w5.heap.size w6.heap.size bg (smarks V.length 1) w13) := HG12.out.below g13
    clear g13 B12 HW12 HG12
    obtain ⟨x0, x1, x2, x3⟩ := HX.out _ B13.out
    go_wp2_with fail
    refine (HT.out _ B13.out).mono ?_
    rintro e w14 ⟨b14, c14, d14, e14, rfl, o14, g14⟩
    have B14 : Hid (Below w0.heap.size w0 w14) := B13.out.trans (g14.mono B13.out.size)
    have HW14 : Hid (OwnS w2.heap.size w3.heap.size bw V w14) := HW13.out.below g14
    have HG14 : Hid (OwnS w5.heap.size w6.heap.size bg (smarks V.length 1) w14) := HG13.out.below g14
    have C14 := hid (H11.out b14 d14 c14 e14 _ o14.read.1 o14.read.2)
    clear g14 o14 B13 HW13 HG13 x0 x1 x2 x3
    go_wp2_with fail
    refine C14.out.mono ?_
    rintro e w15 ⟨b15, c15, rfl, o15, g15⟩
    have B15 : Hid (Below w0.heap.size w0 w15) := B14.out.trans (g15.mono B14.out.size)
    have HW15 : Hid (OwnS w2.heap.size w3.heap.size bw V w15) := HW14.out.below g15
    have HG15 : Hid (OwnS w5.heap.size w6.heap.size bg (smarks V.length 1) w15) := HG14.out.below g15
    have HO15 : Hid (OwnS w14.heap.size w15.heap.size b15 V w15) := o15
    clear g15 o15 B14 HW14 HG14 C14
    go_wp2_with fail
    refine (eqStringS_same b15 bw c15 cw V _ hV HO15.out.ss HW15.out.ss).mono ?_
    rintro e w16 ⟨rfl, g16⟩
    have B16 : Hid (Below w0.heap.size w0 w16) := B15.out.trans (g16.mono B15.out.size)
    have HG16 : Hid (OwnS w5.heap.size w6.heap.size bg (smarks V.length 1) w16) := HG15.out.below g16
    clear g16 B15 HW15 HG15 HO15
    go_wp2_with fail
    refine (held_ownS _ _ bg cg V.length _ hV HG16.out).mono ?_
    rintro e w17 ⟨rfl, g17⟩
    have B17 : Hid (Below w0.heap.size w0 w17) := B16.out.trans (g17.mono B16.out.size)
    clear g17 B16 HG16
    go_wp2
    go_ret
    exact ⟨rfl, HB0.out.trans (B17.out.mono HB0.out.size)⟩
theorem bl_tells {f : Nat} {B : List ByteArray} {F : Int} {L : List Rc} {s : Int} (h16 : B.length = 16 ∨ goodV B F L s = false) (h : ∀ (aB aL : Option Addr) (kB kL : Nat) (w : World), Ss w.heap.size aB B w → Rs w.heap.size aL L w → Calls Try.prog f #[.agg #[.slice aB B.length kB, .int .i64 F, .slice aL L.length kL, .int .i64 s]] w fun e w' => BlOut B F L s w e w') :
    TellsBl f B F L s (if goodV B F L s = true then doL B L else []) (goodV B F L s) := fun aB aL kB kL w hB hL => (h aB aL kB kL w hB hL).mono fun e w' ho => by
  rcases ho with ⟨hg, R, c, rfl, hR, hrow, hb⟩ | ⟨hg, rfl, hb⟩
  · rw [if_pos hg, hg]
    have hl : (doL B L).length = 16 := by
      rw [doL_len]
      rcases h16 with h | h
      · exact h
      · rw [hg] at h; cases h
    exact ⟨some ⟨R, 0, none⟩, c, by rw [hl], Or.inr ⟨R, hR, hrow.lt, rfl, hrow⟩, hb⟩
  · rw [if_neg (by rw [hg]; decide), hg]
    exact ⟨none, 0, rfl, Or.inl rfl, hb⟩
theorem walk_BlocksIn (aB aL : Option Addr) (kB kL : Nat) (B : List ByteArray) (F : Int) (L : List Rc) (s : Int) (w : World) (_hF : fit F) (_hs : fit s) (hzB : ∀ s ∈ B, s.size ≤ 9223372036854775807) (hnB : B.length ≤ 9223372036854775807) (hz : ∀ r ∈ L, r.data.length ≤ 9223372036854775807) (hn : L.length ≤ 9223372036854775807) (hB : Ss w.heap.size aB B w) (hL : Rs w.heap.size aL L w) :
    Calls Try.prog 8 #[.agg #[.slice aB B.length kB, .int .i64 F, .slice aL L.length kL, .int .i64 s]] w fun e w' => e = .returned (.bool true) ∧ Below w.heap.size w w' := by
  refine law_BlocksIn aB aL kB kL B F L s w hzB hnB hz hn hB hL fun hf => ?_
  have h16 : B.length = 16 ∨ goodV B F L s = false := by
    cases hg : goodV B F L s
    · exact Or.inr rfl
    · exact Or.inl (goodBs_len (goodV_iff.1 hg).bs)
  refine ⟨if goodV B F L s = true then doL B L else [], goodV B F L s, ?_, bl_tells h16 (fun aB aL kB kL v h1 h2 => sblocks_any aB aL kB kL B F L s v hf h1 h2), bl_tells h16 (fun aB aL kB kL v h1 h2 => iblocksV_any aB aL kB kL B F L s v hf h1 h2)⟩
  split
  · rw [doL_len]; exact hf.1
  · decide
end Go.Proofs.Ytbipbihjaeobkaa
