/- The exact law of AllBlocks: its walk out of the contracts of the model and of the program. -/
import Derived.Test.YtbomcppkgpfjjaaQSpec
import Derived.Test.YtbomcppkgpfjjaaQImp
import Derived.Test.YtbomcppkgpfjjaaHMks
import Derived.Test.YtbomcppkgpfjjaaHEq
import Derived.Test.YtbomcppkgpfjjaaHSz
import Derived.Test.YtbomcppkgpfjjaaHToH
import Derived.Test.YtbomcppkgpfjjaaHOpen
import Derived.Deep.RegionHeld
namespace Go.Proofs.Ytbomcppkgpfjjaa
set_option maxRecDepth 100000
open Go.ChangeShapes Go.WideShapes Go.ChangeAt Go.RowKit G00541
/-- function f answers V and ok, in memory of its own -/
def TellsAllBlocks (f : Nat) (S : List Sg) (L : List (List Bool)) (V : List Int) (ok : Bool) : Prop := ∀ (aS aL : Option Addr) (kS kL : Nat) (v : World), Gs v.heap.size aS S v → Vs v.heap.size aL L v →
  Calls Try.prog f #[.agg #[.slice aS S.length kS, .slice aL L.length kL]] v fun e w' => ∃ b c, e = .returned (.tuple #[.slice b V.length c, .bool ok]) ∧ OwnI v.heap.size w'.heap.size b V w' ∧ Below v.heap.size v w'
theorem OutP.low {a b lo : Nat} {w w' : World} (h : OutP (Btw a b) w w') (hlo : lo ≤ a) (hs : lo ≤ w.heap.size) : Below lo w w' := ⟨h.os, h.tape, h.output, h.size, fun k hk => h.block k (by omega) (fun hp => by have := hp.1; omega)⟩
theorem Out.toP {a b : Nat} {w w' : World} (h : Out a b w w') : OutP (Btw a b) w w' := ⟨h.os, h.tape, h.output, h.size, fun k hk hn => h.block k hk (by unfold Btw at hn; omega)⟩
theorem OutP.toO {a b : Nat} {w w' : World} (h : OutP (Btw a b) w w') : Out a b w w' := ⟨h.os, h.tape, h.output, h.size, fun k hk hn => h.block k hk (fun hp => by have := hp.1; have := hp.2; omega)⟩
set_option maxHeartbeats 8000000 in
theorem law_AllBlocks (aS aL : Option Addr) (kS kL : Nat) (S : List Sg) (L : List (List Bool)) (w : World) (hn : S.length ≤ 9223372036854775807) (hf : ∀ s ∈ S, s.bl.length ≤ 9223372036854775807) (hn2 : L.length ≤ 9223372036854775807) (hf2 : ∀ s ∈ L, s.length ≤ 9223372036854775807)
    (hG : Gs w.heap.size aS S w) (hV : Vs w.heap.size aL L w)
    (H : FitH S L → ∃ (V : List Int) (ok : Bool), V.length ≤ 1048576 ∧ TellsAllBlocks 5 S L V ok ∧ TellsAllBlocks 7 S L V ok) :
    Calls Try.prog 3 #[.agg #[.slice aS S.length kS, .slice aL L.length kL]] w fun e w' => e = .returned (.bool true) ∧ Below w.heap.size w w' := by
  have HH : Hid (FitH S L → ∃ (V : List Int) (ok : Bool), V.length ≤ 1048576 ∧ TellsAllBlocks 5 S L V ok ∧ TellsAllBlocks 7 S L V ok) := H
  obtain ⟨w0, hw0⟩ : ∃ w0, w0 = w.alloc (.cells #[.slice aS S.length kS, .slice aL L.length kL] 25) := ⟨_, rfl⟩
  have HB0 : Hid (Below w.heap.size w w0) := by show Below w.heap.size w w0; rw [hw0]; exact boxB w _
  have HZ : Hid (∀ v, Below w0.heap.size w0 v → Gs v.heap.size aS S v ∧ Vs v.heap.size aL L v) := fun v g => by
    have g' := HB0.out.trans (g.mono HB0.out.size)
    exact ⟨(hG.below g').mono g'.size, (hV.below g').mono g'.size⟩
  have HX : Hid (∀ v, Below w0.heap.size w0 v → v.cell? ⟨w.heap.size, 0, none⟩ = some (.slice aS S.length kS) ∧ v.cell? ⟨w.heap.size, 1, none⟩ = some (.slice aL L.length kL)) := fun v g => by
    have hc : ∀ i, v.cell? ⟨w.heap.size, i, none⟩ = w0.cell? ⟨w.heap.size, i, none⟩ := fun i => g.cell (p := ⟨w.heap.size, i, none⟩) (by show w.heap.size < w0.heap.size; rw [hw0]; simp)
    exact ⟨by rw [hc, hw0]; go_simp, by rw [hc, hw0]; go_simp⟩
  have HSZ : Hid (∀ v, Below w0.heap.size w0 v → Calls Try.prog 4 #[.agg #[.slice aS S.length kS, .slice aL L.length kL], .int .i64 1048576] v fun e w' => (∃ r : Int, e = .returned (.int .i64 r) ∧ (0 ≤ r → FitH S L)) ∧ Below v.heap.size v w') := fun v g => szHeap_any aS aL kS kL S L v hn hf hn2 hf2 (HZ.out v g).1 (HZ.out v g).2
  have HTO : Hid (FitH S L → ∀ v, Below w0.heap.size w0 v → Calls Try.prog 6 #[.agg #[.slice aS S.length kS, .slice aL L.length kL]] v fun e w' => ∃ RS RL, e = .returned (.agg #[.slice (some ⟨RS, 0, none⟩) S.length S.length, .slice (some ⟨RL, 0, none⟩) L.length L.length]) ∧ MkH (Btw v.heap.size w'.heap.size) (some ⟨RS, 0, none⟩) (some ⟨RL, 0, none⟩) S L w' ∧ Below v.heap.size v w') := fun f v g => (toHeap_any aS aL kS kL S L v f.1 f.2.1 f.2.2.1 f.2.2.2 (HZ.out v g).1 (HZ.out v g).2).mono fun _ _ ⟨RS, RL, e, o, b⟩ => ⟨RS, RL, e, o.mk, b⟩
  have W0 : Hid (w0 = w.alloc (.cells #[.slice aS S.length kS, .slice aL L.length kL] 25)) := hw0
  clear hG hV H hw0 hf hf2
  have B0 : Hid (Below w0.heap.size w0 w0) := Below.refl _ _
  go_enter Try.func3, Try.ntmps3
  go_wp2_with fail
  rw [← W0.out]
  refine (HSZ.out _ B0.out).mono ?_
  rintro e w1 ⟨⟨r, rfl, hr⟩, g1⟩
  have HR := hid hr
  have B1 : Hid (Below w0.heap.size w0 w1) := g1
  clear hr g1 HSZ
  by_cases p0 : 0 ≤ r
  case neg =>
    have hd0 : decide (r < 0) = true := by simp; omega
    clear HR
    go_wp2
    go_ret
    exact ⟨rfl, HB0.out.trans (B1.out.mono HB0.out.size)⟩
  have hd0 : decide (r < 0) = false := by simp; omega
  have HF := hid (HR.out p0)
  have HT := hid (HTO.out HF.out)
  obtain ⟨V, ok, hfv, h9, h11⟩ := HH.out HF.out
  have H9 : Hid (TellsAllBlocks 5 S L V ok) := h9
  have H11 : Hid (TellsAllBlocks 7 S L V ok) := h11
  have HTT := hid (totH_le HF.out)
  have s_w1 : w0.heap.size ≤ w1.heap.size := B1.out.size
  clear h9 h11 HH HR HTO
  obtain ⟨x0, x1⟩ := HX.out _ B1.out
  go_wp2_with fail
  refine (HT.out _ B1.out).mono ?_
  rintro e w2 ⟨R_w2, T_w2, rfl, o_w2, g_w2⟩
  have s_w2 : w1.heap.size ≤ w2.heap.size := g_w2.size
  have B_w2 : Hid (Below w0.heap.size w0 w2) := B1.out.trans (g_w2.mono B1.out.size)
  have HA_w2 : Hid (MkH (Btw w1.heap.size w2.heap.size) (some ⟨R_w2, 0, none⟩) (some ⟨T_w2, 0, none⟩) S L w2) := o_w2
  clear B1 o_w2 g_w2 x0 x1
  have C_w3 := hid (H9.out _ _ S.length L.length _ HA_w2.out.read.1 HA_w2.out.read.2)
  go_wp2_with fail
  refine C_w3.out.mono ?_
  rintro e w3 ⟨b_w3, c_w3, rfl, o_w3, g_w3⟩
  have s_w3 : w2.heap.size ≤ w3.heap.size := g_w3.size
  have B_w3 : Hid (Below w0.heap.size w0 w3) := B_w2.out.trans (g_w3.mono B_w2.out.size)
  have HW_w3 : Hid (OwnI w2.heap.size w3.heap.size b_w3 V w3) := o_w3
  clear B_w2 HA_w2 o_w3 g_w3 C_w3 
  obtain ⟨x0, x1⟩ := HX.out _ B_w3.out
  go_wp2_with fail
  refine (HT.out _ B_w3.out).mono ?_
  rintro e w5 ⟨R_w5, T_w5, rfl, o_w5, g_w5⟩
  have s_w5 : w3.heap.size ≤ w5.heap.size := g_w5.size
  have B_w5 : Hid (Below w0.heap.size w0 w5) := B_w3.out.trans (g_w5.mono B_w3.out.size)
  have HW_w5 : Hid (OwnI w2.heap.size w3.heap.size b_w3 V w5) := HW_w3.out.below g_w5
  have HC_w5 : Hid (MkH (Btw w3.heap.size w5.heap.size) (some ⟨R_w5, 0, none⟩) (some ⟨T_w5, 0, none⟩) S L w5) := o_w5
  clear B_w3 HW_w3 o_w5 g_w5 x0 x1
  go_wp2_with fail
  have ga_w6 := boxB w5 (.cells #[.slice (some ⟨R_w5, 0, none⟩) S.length S.length, .slice (some ⟨T_w5, 0, none⟩) L.length L.length] 32)
  have hl_w6 : (w5.alloc (.cells #[.slice (some ⟨R_w5, 0, none⟩) S.length S.length, .slice (some ⟨T_w5, 0, none⟩) L.length L.length] 32)).heap[w5.heap.size]? = some (.cells #[.slice (some ⟨R_w5, 0, none⟩) S.length S.length, .slice (some ⟨T_w5, 0, none⟩) L.length L.length] 32) := heap_last _ _
  have hz_w6 : (w5.alloc (.cells #[.slice (some ⟨R_w5, 0, none⟩) S.length S.length, .slice (some ⟨T_w5, 0, none⟩) L.length L.length] 32)).heap.size = w5.heap.size + 1 := heap_size _ _
  generalize hw_w6 : w5.alloc (.cells #[.slice (some ⟨R_w5, 0, none⟩) S.length S.length, .slice (some ⟨T_w5, 0, none⟩) L.length L.length] 32) = w6 at *
  have s_w6 : w5.heap.size ≤ w6.heap.size := ga_w6.size
  have B_w6 : Hid (Below w0.heap.size w0 w6) := B_w5.out.trans (ga_w6.mono B_w5.out.size)
  have HC_w6 : Hid (MkH (Btw w3.heap.size w5.heap.size) (some ⟨R_w5, 0, none⟩) (some ⟨T_w5, 0, none⟩) S L w6) := HC_w5.out.on ga_w6
  have HW_w6 : Hid (OwnI w2.heap.size w3.heap.size b_w3 V w6) := HW_w5.out.below ga_w6
  have X8_w6 : Hid (w6.heap[w5.heap.size]? = some (.cells #[.slice (some ⟨R_w5, 0, none⟩) S.length S.length, .slice (some ⟨T_w5, 0, none⟩) L.length L.length] 32)) := hl_w6
  clear B_w5 HC_w5 HW_w5 ga_w6 hl_w6
  have l0X8 : w6.cell? ⟨w5.heap.size, 0, none⟩ = some (.slice (some ⟨R_w5, 0, none⟩) S.length S.length) := box_cell X8_w6.out 0
  have l1X8 : w6.cell? ⟨w5.heap.size, 1, none⟩ = some (.slice (some ⟨T_w5, 0, none⟩) L.length L.length) := box_cell X8_w6.out 1
  have C_w7 := hid (H11.out _ _ S.length L.length _ HC_w6.out.read.1 HC_w6.out.read.2)
  go_wp2_with fail
  refine C_w7.out.mono ?_
  rintro e w7 ⟨b_w7, c_w7, rfl, o_w7, g_w7⟩
  have s_w7 : w6.heap.size ≤ w7.heap.size := g_w7.size
  have B_w7 : Hid (Below w0.heap.size w0 w7) := B_w6.out.trans (g_w7.mono B_w6.out.size)
  have HC_w7 : Hid (MkH (Btw w3.heap.size w5.heap.size) (some ⟨R_w5, 0, none⟩) (some ⟨T_w5, 0, none⟩) S L w7) := HC_w6.out.on g_w7
  have HW_w7 : Hid (OwnI w2.heap.size w3.heap.size b_w3 V w7) := HW_w6.out.below g_w7
  have X8_w7 : Hid (w7.heap[w5.heap.size]? = some (.cells #[.slice (some ⟨R_w5, 0, none⟩) S.length S.length, .slice (some ⟨T_w5, 0, none⟩) L.length L.length] 32)) := (g_w7.block w5.heap.size (by omega)).trans X8_w6.out
  have HG_w7 : Hid (OwnI w6.heap.size w7.heap.size b_w7 V w7) := o_w7
  clear B_w6 HC_w6 HW_w6 X8_w6 o_w7 g_w7 C_w7 l0X8 l1X8
  have C_w9 := hid (fun (k1 k2 : Nat) => eqIntS_same _ _ k1 k2 V w7 hfv HG_w7.out.is HW_w7.out.is)
  go_wp2_with fail
  refine (C_w9.out _ _).mono ?_
  rintro e w9 ⟨rfl, g_w9⟩
  have s_w9 : w7.heap.size ≤ w9.heap.size := g_w9.size
  have B_w9 : Hid (Below w0.heap.size w0 w9) := B_w7.out.trans (g_w9.mono B_w7.out.size)
  have HC_w9 : Hid (MkH (Btw w3.heap.size w5.heap.size) (some ⟨R_w5, 0, none⟩) (some ⟨T_w5, 0, none⟩) S L w9) := HC_w7.out.on g_w9
  have HW_w9 : Hid (OwnI w2.heap.size w3.heap.size b_w3 V w9) := HW_w7.out.below g_w9
  have HG_w9 : Hid (OwnI w6.heap.size w7.heap.size b_w7 V w9) := HG_w7.out.below g_w9
  have X8_w9 : Hid (w9.heap[w5.heap.size]? = some (.cells #[.slice (some ⟨R_w5, 0, none⟩) S.length S.length, .slice (some ⟨T_w5, 0, none⟩) L.length L.length] 32)) := (g_w9.block w5.heap.size (by omega)).trans X8_w7.out
  clear B_w7 HC_w7 HW_w7 HG_w7 X8_w7 g_w9 C_w9
  have HBd : Hid (Below w0.heap.size w0 w9.drew) := B_w9.out.drew
  obtain ⟨x0, x1⟩ := HX.out _ HBd.out
  have y0 : w9.cell? ⟨w5.heap.size, 0, none⟩ = some (.slice (some ⟨R_w5, 0, none⟩) S.length S.length) := box_cell X8_w9.out 0
  have y1 : w9.cell? ⟨w5.heap.size, 1, none⟩ = some (.slice (some ⟨T_w5, 0, none⟩) L.length L.length) := box_cell X8_w9.out 1
  have y0d : w9.drew.cell? ⟨w5.heap.size, 0, none⟩ = some (.slice (some ⟨R_w5, 0, none⟩) S.length S.length) := y0
  have y1d : w9.drew.cell? ⟨w5.heap.size, 1, none⟩ = some (.slice (some ⟨T_w5, 0, none⟩) L.length L.length) := y1
  have HCd := hid (HT.out _ HBd.out)
  have hs9 : w5.heap.size < w9.heap.size := by omega
  have HEQ : Hid (∀ v (aS' aL' : Option Addr) (kS' kL' : Nat), Below w9.heap.size w9 v → Gs v.heap.size aS' S v → Vs v.heap.size aL' L v → Calls Try.prog 9 #[.agg #[.slice (some ⟨R_w5, 0, none⟩) S.length S.length, .slice (some ⟨T_w5, 0, none⟩) L.length L.length], .agg #[.slice aS' S.length kS', .slice aL' L.length kL']] v fun e w' => e = .returned (.bool true) ∧ Below v.heap.size v w') := fun v aS' aL' kS' kL' g h1 h2 => eqHeap_same _ _ aS' aL' _ _ kS' kL' S L v HF.out.1 HF.out.2.1 HF.out.2.2.1 HF.out.2.2.2 (HC_w9.out.on g).read.1 (HC_w9.out.on g).read.2 h1 h2
  go_wp2_with fail
  go_region_held (fun v => v.cell? ⟨w5.heap.size, 0, none⟩ = some (.slice (some ⟨R_w5, 0, none⟩) S.length S.length) ∧ v.cell? ⟨w5.heap.size, 1, none⟩ = some (.slice (some ⟨T_w5, 0, none⟩) L.length L.length) ∧ v.cell? ⟨w.heap.size, 0, none⟩ = some (.slice aS S.length kS) ∧ v.cell? ⟨w.heap.size, 1, none⟩ = some (.slice aL L.length kL)) (first | exact ⟨by assumption, by assumption, by assumption, by assumption⟩) (first | (go_at_call 6; refine HCd.out.mono ?_; rintro e wa ⟨R7, T7, rfl, o7, g7⟩; have s7 := g7.size; have z0 := (g7.cell (p := ⟨w5.heap.size, 0, none⟩) hs9).trans y0; have z1 := (g7.cell (p := ⟨w5.heap.size, 1, none⟩) hs9).trans y1; have B7 : Hid (Below w0.heap.size w0 wa) := HBd.out.trans (g7.mono HBd.out.size); obtain ⟨z2, z3⟩ := HX.out _ B7.out) | (go_at_call 9; refine (HEQ.out wa _ _ _ _ ⟨g7.os, g7.tape, g7.output, g7.size, g7.block⟩ o7.read.1 o7.read.2).mono ?_; rintro e wb ⟨rfl, g8⟩; have t0 := (g8.cell (p := ⟨w5.heap.size, 0, none⟩) (show w5.heap.size < wa.heap.size from Nat.lt_of_lt_of_le hs9 s7)).trans z0; have t1 := (g8.cell (p := ⟨w5.heap.size, 1, none⟩) (show w5.heap.size < wa.heap.size from Nat.lt_of_lt_of_le hs9 s7)).trans z1; have B8 : Hid (Below w0.heap.size w0 wb) := B7.out.trans (g8.mono B7.out.size); obtain ⟨t2, t3⟩ := HX.out _ B8.out))
  have gd : Below w9.heap.size w9 wb := (show Below w9.heap.size w9 wa from ⟨g7.os, g7.tape, g7.output, g7.size, g7.block⟩).trans (g8.mono g7.size)
  have s_wb : w9.heap.size ≤ wb.heap.size := gd.size
  have B_wb : Hid (Below w0.heap.size w0 wb) := B_w9.out.trans (gd.mono B_w9.out.size)
  have HC_wb : Hid (MkH (Btw w3.heap.size w5.heap.size) (some ⟨R_w5, 0, none⟩) (some ⟨T_w5, 0, none⟩) S L wb) := HC_w9.out.on gd
  have HW_wb : Hid (OwnI w2.heap.size w3.heap.size b_w3 V wb) := HW_w9.out.below gd
  have HG_wb : Hid (OwnI w6.heap.size w7.heap.size b_w7 V wb) := HG_w9.out.below gd
  have X8_wb : Hid (wb.heap[w5.heap.size]? = some (.cells #[.slice (some ⟨R_w5, 0, none⟩) S.length S.length, .slice (some ⟨T_w5, 0, none⟩) L.length L.length] 32)) := (gd.block w5.heap.size (by omega)).trans X8_w9.out
  clear B_w9 HC_w9 HW_w9 HG_w9 X8_w9 HBd HCd HEQ x0 x1 y0 y1 y0d y1d z0 z1 z2 z3 t0 t1 t2 t3 o7 g7 g8 gd B7 B8 s7
  have hk0 : decide (((totH S L : Nat) : Int) < 0) = false := decide_eq_false (by omega)
  have l0X8 : wb.cell? ⟨w5.heap.size, 0, none⟩ = some (.slice (some ⟨R_w5, 0, none⟩) S.length S.length) := box_cell X8_wb.out 0
  have l1X8 : wb.cell? ⟨w5.heap.size, 1, none⟩ = some (.slice (some ⟨T_w5, 0, none⟩) L.length L.length) := box_cell X8_wb.out 1
  have C_w10 := hid (fun (k1 k2 : Nat) => markHeap_m (Btw w3.heap.size w5.heap.size) _ _ k1 k2 S L wb HF.out (fun k h => by have := h.2; omega) HC_wb.out)
  go_wp2_with fail
  refine (C_w10.out _ _).mono ?_
  rintro e w10 ⟨rfl, m_w10, g_w10⟩
  have s_w10 : wb.heap.size ≤ w10.heap.size := g_w10.size
  have B_w10 : Hid (Below w0.heap.size w0 w10) := B_wb.out.trans (g_w10.low (by have := B_wb.out.size; omega) B_wb.out.size)
  have HW_w10 : Hid (OwnI w2.heap.size w3.heap.size b_w3 V w10) := HW_wb.out.out g_w10.toO (by omega)
  have HG_w10 : Hid (OwnI w6.heap.size w7.heap.size b_w7 V w10) := HG_wb.out.out g_w10.toO (by omega)
  clear B_wb HC_wb HW_wb HG_wb X8_wb g_w10 m_w10 C_w10 l0X8 l1X8
  have C_w11 := hid (fun (k1 k2 : Nat) => eqIntS_same _ _ k1 k2 V w10 hfv HG_w10.out.is HW_w10.out.is)
  go_wp2_with fail
  refine (C_w11.out _ _).mono ?_
  rintro e w11 ⟨rfl, g_w11⟩
  have s_w11 : w10.heap.size ≤ w11.heap.size := g_w11.size
  have B_w11 : Hid (Below w0.heap.size w0 w11) := B_w10.out.trans (g_w11.mono B_w10.out.size)
  have HW_w11 : Hid (OwnI w2.heap.size w3.heap.size b_w3 V w11) := HW_w10.out.below g_w11
  have HG_w11 : Hid (OwnI w6.heap.size w7.heap.size b_w7 V w11) := HG_w10.out.below g_w11
  clear B_w10 HW_w10 HG_w10 g_w11 C_w11
  have hk1 : decide (((1 + V.length : Nat) : Int) < 0) = false := decide_eq_false (by omega)
  have C_w12 := hid (fun (k1 : Nat) => mark_ownI w6.heap.size w7.heap.size b_w7 k1 V w11 hfv 1 (by omega) (by omega) HG_w11.out)
  go_wp2_with fail
  refine (C_w12.out _).mono ?_
  rintro e w12 ⟨rfl, m_w12, gg_w12⟩
  have g_w12 := gg_w12.toP
  have s_w12 : w11.heap.size ≤ w12.heap.size := g_w12.size
  have B_w12 : Hid (Below w0.heap.size w0 w12) := B_w11.out.trans (g_w12.low (by have := B_w11.out.size; omega) B_w11.out.size)
  have HW_w12 : Hid (OwnI w2.heap.size w3.heap.size b_w3 V w12) := HW_w11.out.out g_w12.toO (by omega)
  have HGm_w12 : Hid (OwnI w6.heap.size w7.heap.size b_w7 (imarks V.length 1) w12) := m_w12
  clear B_w11 HW_w11 HG_w11 g_w12 gg_w12 m_w12 C_w12
  have C_w13 := hid (fun (k1 : Nat) => held_ownI w6.heap.size w7.heap.size b_w7 k1 V.length w12 hfv HGm_w12.out)
  go_wp2_with fail
  refine (C_w13.out _).mono ?_
  rintro e w13 ⟨rfl, g_w13⟩
  have s_w13 : w12.heap.size ≤ w13.heap.size := g_w13.size
  have B_w13 : Hid (Below w0.heap.size w0 w13) := B_w12.out.trans (g_w13.mono B_w12.out.size)
  have HW_w13 : Hid (OwnI w2.heap.size w3.heap.size b_w3 V w13) := HW_w12.out.below g_w13
  have HGm_w13 : Hid (OwnI w6.heap.size w7.heap.size b_w7 (imarks V.length 1) w13) := HGm_w12.out.below g_w13
  clear B_w12 HW_w12 HGm_w12 g_w13 C_w13
  obtain ⟨x0, x1⟩ := HX.out _ B_w13.out
  go_wp2_with fail
  refine (HT.out _ B_w13.out).mono ?_
  rintro e w14 ⟨R_w14, T_w14, rfl, o_w14, g_w14⟩
  have s_w14 : w13.heap.size ≤ w14.heap.size := g_w14.size
  have B_w14 : Hid (Below w0.heap.size w0 w14) := B_w13.out.trans (g_w14.mono B_w13.out.size)
  have HW_w14 : Hid (OwnI w2.heap.size w3.heap.size b_w3 V w14) := HW_w13.out.below g_w14
  have HGm_w14 : Hid (OwnI w6.heap.size w7.heap.size b_w7 (imarks V.length 1) w14) := HGm_w13.out.below g_w14
  have HD_w14 : Hid (MkH (Btw w13.heap.size w14.heap.size) (some ⟨R_w14, 0, none⟩) (some ⟨T_w14, 0, none⟩) S L w14) := o_w14
  clear B_w13 HW_w13 HGm_w13 o_w14 g_w14 x0 x1
  have C_w15 := hid (H11.out _ _ S.length L.length _ HD_w14.out.read.1 HD_w14.out.read.2)
  go_wp2_with fail
  refine C_w15.out.mono ?_
  rintro e w15 ⟨b_w15, c_w15, rfl, o_w15, g_w15⟩
  have s_w15 : w14.heap.size ≤ w15.heap.size := g_w15.size
  have B_w15 : Hid (Below w0.heap.size w0 w15) := B_w14.out.trans (g_w15.mono B_w14.out.size)
  have HW_w15 : Hid (OwnI w2.heap.size w3.heap.size b_w3 V w15) := HW_w14.out.below g_w15
  have HGm_w15 : Hid (OwnI w6.heap.size w7.heap.size b_w7 (imarks V.length 1) w15) := HGm_w14.out.below g_w15
  have HQ_w15 : Hid (OwnI w14.heap.size w15.heap.size b_w15 V w15) := o_w15
  clear B_w14 HD_w14 HW_w14 HGm_w14 o_w15 g_w15 C_w15 
  have C_w17 := hid (fun (k1 k2 : Nat) => eqIntS_same _ _ k1 k2 V w15 hfv HQ_w15.out.is HW_w15.out.is)
  go_wp2_with fail
  refine (C_w17.out _ _).mono ?_
  rintro e w17 ⟨rfl, g_w17⟩
  have s_w17 : w15.heap.size ≤ w17.heap.size := g_w17.size
  have B_w17 : Hid (Below w0.heap.size w0 w17) := B_w15.out.trans (g_w17.mono B_w15.out.size)
  have HW_w17 : Hid (OwnI w2.heap.size w3.heap.size b_w3 V w17) := HW_w15.out.below g_w17
  have HGm_w17 : Hid (OwnI w6.heap.size w7.heap.size b_w7 (imarks V.length 1) w17) := HGm_w15.out.below g_w17
  have HQ_w17 : Hid (OwnI w14.heap.size w15.heap.size b_w15 V w17) := HQ_w15.out.below g_w17
  clear B_w15 HW_w15 HGm_w15 HQ_w15 g_w17 C_w17
  have C_w18 := hid (fun (k1 : Nat) => held_ownI w6.heap.size w7.heap.size b_w7 k1 V.length w17 hfv HGm_w17.out)
  go_wp2_with fail
  refine (C_w18.out _).mono ?_
  rintro e w18 ⟨rfl, g_w18⟩
  have s_w18 : w17.heap.size ≤ w18.heap.size := g_w18.size
  have B_w18 : Hid (Below w0.heap.size w0 w18) := B_w17.out.trans (g_w18.mono B_w17.out.size)
  have HW_w18 : Hid (OwnI w2.heap.size w3.heap.size b_w3 V w18) := HW_w17.out.below g_w18
  have HGm_w18 : Hid (OwnI w6.heap.size w7.heap.size b_w7 (imarks V.length 1) w18) := HGm_w17.out.below g_w18
  have HQ_w18 : Hid (OwnI w14.heap.size w15.heap.size b_w15 V w18) := HQ_w17.out.below g_w18
  clear B_w17 HW_w17 HGm_w17 HQ_w17 g_w18 C_w18
  go_wp2
  go_ret
  exact ⟨rfl, HB0.out.trans (B_w18.out.mono HB0.out.size)⟩
theorem walk_AllBlocks (aS aL : Option Addr) (kS kL : Nat) (S : List Sg) (L : List (List Bool)) (w : World) (hn : S.length ≤ 9223372036854775807) (hf : ∀ s ∈ S, s.bl.length ≤ 9223372036854775807) (hn2 : L.length ≤ 9223372036854775807) (hf2 : ∀ s ∈ L, s.length ≤ 9223372036854775807) (hG : Gs w.heap.size aS S w) (hV : Vs w.heap.size aL L w) : Calls Try.prog 3 #[.agg #[.slice aS S.length kS, .slice aL L.length kL]] w fun e w' => e = .returned (.bool true) ∧ Below w.heap.size w w' := by
  refine law_AllBlocks aS aL kS kL S L w hn hf hn2 hf2 hG hV fun hfit => ?_
  cases hg : goodH S L
  · exact ⟨[], false, by simp, fun aS aL kS kL v a b => Q.sAll_no aS aL kS kL S L v hg a b, fun aS aL kS kL v a b => Q.iAll_no aS aL kS kL S L v hg a b⟩
  · have hl : L.length = S.length := by
      rcases Nat.decEq L.length S.length with e | e
      · rw [goodH_len S L e] at hg; cases hg
      · exact e
    refine ⟨sortN (Q.flatB S L), true, ?_, fun aS aL kS kL v a b => Q.sAll_yes aS aL kS kL S L v hl hg a b, fun aS aL kS kL v a b => Q.iAll_yes aS aL kS kL S L v hl hg a b⟩
    obtain ⟨⟨_, h8⟩, hgs, _⟩ := (goodH_iff S L hl).1 hg
    have := Q.flatB_len S L hl (fun k h => ((goodS_iff _ _).1 (hgs k h)).1) S.length (Nat.le_refl _)
    rw [List.take_length, List.take_of_length_le (by omega)] at this
    rw [sortN_len]
    omega
end Go.Proofs.Ytbomcppkgpfjjaa
