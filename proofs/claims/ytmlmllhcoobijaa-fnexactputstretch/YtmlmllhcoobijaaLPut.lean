/- The exact law of PutStretch: its walk out of the contracts of the model and of the program. -/
import Derived.Test.YtmlmllhcoobijaaSMap2
import Derived.Test.YtmlmllhcoobijaaXH
import Derived.Test.YtmlmllhcoobijaaXFit
import Derived.Deep.RegionHeld
namespace Go.Proofs.Ytmlmllhcoobijaa
set_option maxRecDepth 100000
open Go.ChangeShapes Go.WideShapes Go.ChangeAt Go.RowKit G00541
/-- function f answers V and ok, in memory of its own -/
def TellsPutStretch (f : Nat) (l0 : List Sx) (px nx cx : Int) (V : List Sx) (ok : Bool) : Prop := ∀ (q0 : Option Addr) (d0 : Nat) (v : World), Xs v.heap.size q0 l0 v → 
  Calls Try.prog f #[.slice q0 l0.length d0, .agg #[.int .i64 px, .int .i64 nx, .int .i64 cx]] v fun e w' => ∃ b c, e = .returned (.tuple #[.slice b V.length c, .bool ok]) ∧ OwnX v.heap.size w'.heap.size b V w' ∧ Below v.heap.size v w'
set_option maxHeartbeats 8000000 in
theorem law_PutStretch (a : Option Addr) (cap0 : Nat) (l0 : List Sx) (px nx cx : Int) (w : World) (hl0 : l0.length ≤ 9223372036854775807) (hZ0 : Xs w.heap.size a l0 w)
    (H : l0.length ≤ 1048576 → ∃ (V : List Sx) (ok : Bool), V.length ≤ 1048576 ∧ TellsPutStretch 14 l0 px nx cx V ok ∧ TellsPutStretch 16 l0 px nx cx V ok) :
    Calls Try.prog 4 #[.slice a l0.length cap0, .agg #[.int .i64 px, .int .i64 nx, .int .i64 cx]] w fun e w' => e = .returned (.bool true) ∧ Below w.heap.size w w' := by
  have HH : Hid (l0.length ≤ 1048576 → ∃ (V : List Sx) (ok : Bool), V.length ≤ 1048576 ∧ TellsPutStretch 14 l0 px nx cx V ok ∧ TellsPutStretch 16 l0 px nx cx V ok) := H
  obtain ⟨w0, hw0⟩ : ∃ w0, w0 = (w.alloc (.cells #[.int .i64 px, .int .i64 nx, .int .i64 cx] 30)) := ⟨_, rfl⟩
  have HB0 : Hid (Below w.heap.size w w0) := by show Below w.heap.size w w0; rw [hw0]; exact (Below.refl _ _).alloc (Nat.le_refl _) _
  have HZ0 : Hid (∀ v, Below w0.heap.size w0 v → Xs v.heap.size a l0 v) := fun v g => (hZ0.below (HB0.out.trans (g.mono HB0.out.size))).mono (HB0.out.trans (g.mono HB0.out.size)).size
  have HX : Hid (∀ v, Below w0.heap.size w0 v → v.cell? ⟨w.heap.size, 0, none⟩ = some (.int .i64 px) ∧ v.cell? ⟨w.heap.size, 1, none⟩ = some (.int .i64 nx) ∧ v.cell? ⟨w.heap.size, 2, none⟩ = some (.int .i64 cx)) := fun v g => by
    have hc : ∀ i, v.cell? ⟨w.heap.size, i, none⟩ = w0.cell? ⟨w.heap.size, i, none⟩ := fun i => g.cell (p := ⟨w.heap.size, i, none⟩) (by show w.heap.size < w0.heap.size; rw [hw0]; simp)
    exact ⟨by rw [hc, hw0]; go_simp, by rw [hc, hw0]; go_simp, by rw [hc, hw0]; go_simp⟩
  have W0 : Hid (w0 = (w.alloc (.cells #[.int .i64 px, .int .i64 nx, .int .i64 cx] 30))) := hw0
  clear hZ0 H hw0
  go_enter Try.func4, Try.ntmps4
  go_wp2_with fail
  refine (szStretchS_any a cap0 l0.length 1048576 _ (by omega) (by omega) hl0).mono ?_
  rintro e wz ⟨⟨r0, rfl, hr01, hr0⟩, hwz⟩
  rw [hwz]
  clear hwz wz
  by_cases p0 : 0 ≤ r0
  case neg =>
    have hd0 : decide (r0 < 0) = true := by simp; omega
    clear hr0
    go_wp2
    go_ret
    exact ⟨rfl, (Below.refl _ _).alloc (Nat.le_refl _) _⟩
  have hd0 : decide (r0 < 0) = false := by simp; omega
  have hn0 := hr0 p0
  clear hr0
  go_wp2_with fail
  obtain ⟨V, ok, hV, h9, h11⟩ := HH.out hn0
  have H9 : Hid (TellsPutStretch 14 l0 px nx cx V ok) := h9
  have H11 : Hid (TellsPutStretch 16 l0 px nx cx V ok) := h11
  clear h9 h11 HH
  rw [← W0.out]
  have B0 : Hid (Below w0.heap.size w0 w0) := Below.refl _ _
  have HBd : Hid (Below w0.heap.size w0 w0.drew) := B0.out.drew
  obtain ⟨x0, x1, x2⟩ := HX.out _ HBd.out
  go_wp2_with fail
  go_region_held (fun v => v.cell? ⟨w.heap.size, 0, none⟩ = some (.int .i64 px) ∧ v.cell? ⟨w.heap.size, 1, none⟩ = some (.int .i64 nx) ∧ v.cell? ⟨w.heap.size, 2, none⟩ = some (.int .i64 cx)) (first | exact ⟨by assumption, by assumption, by assumption⟩) (first | (go_at_call 11; refine (to_ownX a cap0 l0 _ hn0 (HZ0.out _ HBd.out)).mono ?_; rintro e w1 ⟨b1, c1, rfl, o1, g1⟩; have HBn : Hid (Below w0.heap.size w0 w1) := HBd.out.trans (g1.mono HBd.out.size); obtain ⟨y0, y1, y2⟩ := HX.out _ HBn.out) | (go_at_call 15; refine (toStretch_any ⟨px, nx, cx⟩ _).mono ?_; rintro e w2 ⟨rfl, g2⟩; have HBm : Hid (Below w0.heap.size w0 w2) := HBn.out.trans (g2.mono HBn.out.size); obtain ⟨z0, z1, z2⟩ := HX.out _ HBm.out) | (go_at_call 14; refine (H9.out b1 c1 _ (o1.below g2).xs).mono ?_; rintro e w3 ⟨b3, c3, rfl, o3, g3⟩; have HBo : Hid (Below w0.heap.size w0 w3) := HBm.out.trans (g3.mono HBm.out.size); obtain ⟨t0, t1, t2⟩ := HX.out _ HBo.out))
  have s_w1 : w0.heap.size ≤ w1.heap.size := g1.size
  have s_w2 := g2.size
  have s_w3 := g3.size
  have gd : Below w0.heap.size w0 w3 := ((show Below w0.heap.size w0 w1 from ⟨g1.os, g1.tape, g1.output, g1.size, g1.block⟩).trans (g2.mono s_w1)).trans (g3.mono (Nat.le_trans s_w1 s_w2))
  have HW_w3 : Hid (OwnX w2.heap.size w3.heap.size b3 V w3) := o3
  have B_w3 : Hid (Below w0.heap.size w0 w3) := HBo.out
  clear B0 HBd HBn HBm HBo x0 x1 x2 y0 y1 y2 z0 z1 z2 t0 t1 t2 o1 o3 g1 g2 g3 gd
  go_wp2_with fail
  refine (to_ownX a cap0 l0 _ hn0 (HZ0.out _ B_w3.out)).mono ?_
  rintro e w4 ⟨b4, c4, rfl, o4, g4⟩
  have s_w4 := g4.size
  have B_w4 : Hid (Below w0.heap.size w0 w4) := B_w3.out.trans (g4.mono B_w3.out.size)
  have HW_w4 : Hid (OwnX w2.heap.size w3.heap.size b3 V w4) := HW_w3.out.below g4
  have HA0_w4 : Hid (OwnX w3.heap.size w4.heap.size b4 l0 w4) := o4
  clear B_w3 HW_w3 o4 g4
  obtain ⟨x0, x1, x2⟩ := HX.out _ B_w4.out
  go_wp2_with fail
  refine (toStretch_any ⟨px, nx, cx⟩ _).mono ?_
  rintro e w5 ⟨rfl, g5⟩
  have s_w5 := g5.size
  have B_w5 : Hid (Below w0.heap.size w0 w5) := B_w4.out.trans (g5.mono B_w4.out.size)
  have HW_w5 : Hid (OwnX w2.heap.size w3.heap.size b3 V w5) := HW_w4.out.below g5
  have HA0_w5 : Hid (OwnX w3.heap.size w4.heap.size b4 l0 w5) := HA0_w4.out.below g5
  clear B_w4 HW_w4 HA0_w4 g5 x0 x1 x2
  go_wp2_with fail
  refine (H11.out b4 c4 _ HA0_w5.out.xs).mono ?_
  rintro e w6 ⟨b6, c6, rfl, o6, g6⟩
  have s_w6 := g6.size
  have B_w6 : Hid (Below w0.heap.size w0 w6) := B_w5.out.trans (g6.mono B_w5.out.size)
  have HW_w6 : Hid (OwnX w2.heap.size w3.heap.size b3 V w6) := HW_w5.out.below g6
  have HA0_w6 : Hid (OwnX w3.heap.size w4.heap.size b4 l0 w6) := HA0_w5.out.below g6
  have HG_w6 : Hid (OwnX w5.heap.size w6.heap.size b6 V w6) := o6
  clear B_w5 HW_w5 HA0_w5 o6 g6
  go_wp2_with fail
  refine (eqStretchS_same b6 b3 c6 c3 V _ hV HG_w6.out.xs HW_w6.out.xs).mono ?_
  rintro e w7 ⟨rfl, g7⟩
  have s_w7 := g7.size
  have B_w7 : Hid (Below w0.heap.size w0 w7) := B_w6.out.trans (g7.mono B_w6.out.size)
  have HW_w7 : Hid (OwnX w2.heap.size w3.heap.size b3 V w7) := HW_w6.out.below g7
  have HA0_w7 : Hid (OwnX w3.heap.size w4.heap.size b4 l0 w7) := HA0_w6.out.below g7
  have HG_w7 : Hid (OwnX w5.heap.size w6.heap.size b6 V w7) := HG_w6.out.below g7
  clear B_w6 HW_w6 HA0_w6 HG_w6 g7
  go_wp2_with fail
  refine (to_ownX a cap0 l0 _ hn0 (HZ0.out _ B_w7.out)).mono ?_
  rintro e w8 ⟨b8, c8, rfl, o8, g8⟩
  have s_w8 := g8.size
  have B_w8 : Hid (Below w0.heap.size w0 w8) := B_w7.out.trans (g8.mono B_w7.out.size)
  have HW_w8 : Hid (OwnX w2.heap.size w3.heap.size b3 V w8) := HW_w7.out.below g8
  have HA0_w8 : Hid (OwnX w3.heap.size w4.heap.size b4 l0 w8) := HA0_w7.out.below g8
  have HG_w8 : Hid (OwnX w5.heap.size w6.heap.size b6 V w8) := HG_w7.out.below g8
  have HY_w8 : Hid (OwnX w7.heap.size w8.heap.size b8 l0 w8) := o8
  clear B_w7 HW_w7 HA0_w7 HG_w7 o8 g8
  go_wp2_with fail
  refine (eqStretchS_same b4 b8 c4 c8 l0 _ hn0 HA0_w8.out.xs HY_w8.out.xs).mono ?_
  rintro e w9 ⟨rfl, g9⟩
  have s_w9 := g9.size
  have B_w9 : Hid (Below w0.heap.size w0 w9) := B_w8.out.trans (g9.mono B_w8.out.size)
  have HW_w9 : Hid (OwnX w2.heap.size w3.heap.size b3 V w9) := HW_w8.out.below g9
  have HA0_w9 : Hid (OwnX w3.heap.size w4.heap.size b4 l0 w9) := HA0_w8.out.below g9
  have HG_w9 : Hid (OwnX w5.heap.size w6.heap.size b6 V w9) := HG_w8.out.below g9
  clear B_w8 HW_w8 HA0_w8 HG_w8 HY_w8 g9
  have hk0 : decide (((1 + 3 * l0.length : Nat) : Int) < 0) = false := decide_eq_false (by omega)
  have hm0 : 1 ≤ 1 + 3 * l0.length ∧ 1 + 3 * l0.length ≤ 10000000 := by omega
  go_wp2_with fail
  refine (mark_ownX _ _ b4 c4 l0 _ hn0 1 (by omega) (by omega) HA0_w9.out).mono ?_
  rintro e w10 ⟨rfl, o10, t10⟩
  have s_w10 := t10.size
  have B_w10 : Hid (Below w0.heap.size w0 w10) := B_w9.out.trans (t10.below (by omega) B_w9.out.size)
  have HW_w10 : Hid (OwnX w2.heap.size w3.heap.size b3 V w10) := HW_w9.out.out t10 (by omega)
  have HG_w10 : Hid (OwnX w5.heap.size w6.heap.size b6 V w10) := HG_w9.out.out t10 (by omega)
  clear B_w9 HW_w9 HA0_w9 HG_w9 o10 t10
  generalize 1 + 3 * l0.length = m0 at *
  go_wp2_with fail
  refine (eqStretchS_same b6 b3 c6 c3 V _ hV HG_w10.out.xs HW_w10.out.xs).mono ?_
  rintro e w11 ⟨rfl, g11⟩
  have s_w11 := g11.size
  have B_w11 : Hid (Below w0.heap.size w0 w11) := B_w10.out.trans (g11.mono B_w10.out.size)
  have HW_w11 : Hid (OwnX w2.heap.size w3.heap.size b3 V w11) := HW_w10.out.below g11
  have HG_w11 : Hid (OwnX w5.heap.size w6.heap.size b6 V w11) := HG_w10.out.below g11
  clear B_w10 HW_w10 HG_w10 g11
  go_wp2_with fail
  refine (mark_ownX _ _ b6 c6 V _ hV 1 (by omega) (by omega) HG_w11.out).mono ?_
  rintro e w12 ⟨rfl, o12, t12⟩
  have s_w12 := t12.size
  have B_w12 : Hid (Below w0.heap.size w0 w12) := B_w11.out.trans (t12.below (by omega) B_w11.out.size)
  have HW_w12 : Hid (OwnX w2.heap.size w3.heap.size b3 V w12) := HW_w11.out.out t12 (by omega)
  have HGm_w12 : Hid (OwnX w5.heap.size w6.heap.size b6 (xmarks V.length 1) w12) := o12
  clear B_w11 HW_w11 HG_w11 o12 t12
  have hm : decide (((1 + 3 * V.length : Nat) : Int) < 0) = false := decide_eq_false (by omega)
  go_wp2_with fail
  refine (held_ownX _ _ b6 c6 V.length _ hV HGm_w12.out).mono ?_
  rintro e w13 ⟨rfl, g13⟩
  have s_w13 := g13.size
  have B_w13 : Hid (Below w0.heap.size w0 w13) := B_w12.out.trans (g13.mono B_w12.out.size)
  have HW_w13 : Hid (OwnX w2.heap.size w3.heap.size b3 V w13) := HW_w12.out.below g13
  have HGm_w13 : Hid (OwnX w5.heap.size w6.heap.size b6 (xmarks V.length 1) w13) := HGm_w12.out.below g13
  clear B_w12 HW_w12 HGm_w12 g13
  have HBd : Hid (Below w0.heap.size w0 w13.drew) := B_w13.out.drew
  obtain ⟨x0, x1, x2⟩ := HX.out _ HBd.out
  go_wp2_with fail
  go_region_held (fun v => v.cell? ⟨w.heap.size, 0, none⟩ = some (.int .i64 px) ∧ v.cell? ⟨w.heap.size, 1, none⟩ = some (.int .i64 nx) ∧ v.cell? ⟨w.heap.size, 2, none⟩ = some (.int .i64 cx)) (first | exact ⟨by assumption, by assumption, by assumption⟩) (first | (go_at_call 11; refine (to_ownX a cap0 l0 _ hn0 (HZ0.out _ HBd.out)).mono ?_; rintro e w14 ⟨b14, c14, rfl, o14, g14⟩; have HBn : Hid (Below w0.heap.size w0 w14) := HBd.out.trans (g14.mono HBd.out.size); obtain ⟨y0, y1, y2⟩ := HX.out _ HBn.out) | (go_at_call 15; refine (toStretch_any ⟨px, nx, cx⟩ _).mono ?_; rintro e w15 ⟨rfl, g15⟩; have HBm : Hid (Below w0.heap.size w0 w15) := HBn.out.trans (g15.mono HBn.out.size); obtain ⟨z0, z1, z2⟩ := HX.out _ HBm.out) | (go_at_call 16; refine (H11.out b14 c14 _ (o14.below g15).xs).mono ?_; rintro e w16 ⟨b16, c16, rfl, o16, g16⟩; have HBo : Hid (Below w0.heap.size w0 w16) := HBm.out.trans (g16.mono HBm.out.size); obtain ⟨t0, t1, t2⟩ := HX.out _ HBo.out))
  have s_w14 : w13.heap.size ≤ w14.heap.size := g14.size
  have s_w15 := g15.size
  have s_w16 := g16.size
  have gd : Below w13.heap.size w13 w16 := ((show Below w13.heap.size w13 w14 from ⟨g14.os, g14.tape, g14.output, g14.size, g14.block⟩).trans (g15.mono s_w14)).trans (g16.mono (Nat.le_trans s_w14 s_w15))
  have HW_w16 : Hid (OwnX w2.heap.size w3.heap.size b3 V w16) := HW_w13.out.below gd
  have HGm_w16 : Hid (OwnX w5.heap.size w6.heap.size b6 (xmarks V.length 1) w16) := HGm_w13.out.below gd
  have HH2_w16 : Hid (OwnX w15.heap.size w16.heap.size b16 V w16) := o16
  have B_w16 : Hid (Below w0.heap.size w0 w16) := HBo.out
  clear B_w13 HW_w13 HGm_w13 HBd HBn HBm HBo x0 x1 x2 y0 y1 y2 z0 z1 z2 t0 t1 t2 o14 o16 g14 g15 g16 gd
  go_wp2_with fail
  refine (eqStretchS_same b16 b3 c16 c3 V _ hV HH2_w16.out.xs HW_w16.out.xs).mono ?_
  rintro e w17 ⟨rfl, g17⟩
  have s_w17 := g17.size
  have B_w17 : Hid (Below w0.heap.size w0 w17) := B_w16.out.trans (g17.mono B_w16.out.size)
  have HW_w17 : Hid (OwnX w2.heap.size w3.heap.size b3 V w17) := HW_w16.out.below g17
  have HGm_w17 : Hid (OwnX w5.heap.size w6.heap.size b6 (xmarks V.length 1) w17) := HGm_w16.out.below g17
  have HH2_w17 : Hid (OwnX w15.heap.size w16.heap.size b16 V w17) := HH2_w16.out.below g17
  clear B_w16 HW_w16 HGm_w16 HH2_w16 g17
  go_wp2_with fail
  refine (held_ownX _ _ b6 c6 V.length _ hV HGm_w17.out).mono ?_
  rintro e w18 ⟨rfl, g18⟩
  have s_w18 := g18.size
  have B_w18 : Hid (Below w0.heap.size w0 w18) := B_w17.out.trans (g18.mono B_w17.out.size)
  have HW_w18 : Hid (OwnX w2.heap.size w3.heap.size b3 V w18) := HW_w17.out.below g18
  have HGm_w18 : Hid (OwnX w5.heap.size w6.heap.size b6 (xmarks V.length 1) w18) := HGm_w17.out.below g18
  have HH2_w18 : Hid (OwnX w15.heap.size w16.heap.size b16 V w18) := HH2_w17.out.below g18
  clear B_w17 HW_w17 HGm_w17 HH2_w17 g18
  go_wp2
  go_ret
  exact ⟨rfl, HB0.out.trans (B_w18.out.mono HB0.out.size)⟩
theorem walk_PutStretch (a0 : Option Addr) (c0 : Nat) (l0 : List Sx) (x : Sx) (w : World) (hf : FitM l0) (hl : l0.length ≤ 9223372036854775807) (hZ : Xs w.heap.size a0 l0 w) (hx : FitX x) :
    Calls Try.prog 4 #[.slice a0 l0.length c0, xval x] w fun e w' => e = .returned (.bool true) ∧ Below w.heap.size w w' := by
  obtain ⟨p, n, c⟩ := x
  refine law_PutStretch a0 c0 l0 p n c w hl hZ fun hn => ?_
  by_cases hg : goodM l0 = true ∧ goodX ⟨p, n, c⟩ = true
  · have gx := (goodX_iff _).1 hg.2
    simp only at gx
    obtain ⟨p, rfl⟩ : ∃ p' : Nat, p = p' := ⟨p.toNat, by omega⟩
    obtain ⟨n, rfl⟩ : ∃ n' : Nat, n = n' := ⟨n.toNat, by omega⟩
    have hr := mapF_len _ (putF_range (plN l0) ⟨p, n, c⟩ n (plN_range l0 hg.1) (by simp only; omega) (by simp only; omega))
    exact ⟨_, true, by omega, fun q d v hv => sput_yes q d l0 p n c v hn hv hg.1 hg.2, fun q d v hv => iput_yes q d l0 p n c v hf hv hg.1 hg.2⟩
  · exact ⟨[], false, by decide, fun q d v hv => sput_no q d l0 p n c v hn hv hg, fun q d v hv => iput_no q d l0 p n c v hn hf hx.1 hx.2.1 hv hg⟩
end Go.Proofs.Ytmlmllhcoobijaa
