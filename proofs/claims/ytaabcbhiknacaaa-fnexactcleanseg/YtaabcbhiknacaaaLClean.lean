/- The exact law of CleanSeg: its walk out of the contracts of the model and of the program. -/
import Derived.Test.YtaabcbhiknacaaaICl
import Derived.Test.YtaabcbhiknacaaaSCl
import Derived.Test.YtaabcbhiknacaaaHMks
import Derived.Test.YtaabcbhiknacaaaHEq
import Derived.Test.YtaabcbhiknacaaaHOpen
import Derived.Deep.RegionHeld
namespace Go.Proofs.Ytaabcbhiknacaaa
set_option maxRecDepth 100000
open Go.ChangeShapes Go.WideShapes Go.ChangeAt Go.RowKit G00541
/-- function f answers V, U and ok, in memory of its own -/
def TellsCleanSeg (f : Nat) (S : List Sg) (L : List (List Bool)) (x : Int) (V : List Sg) (U : List (List Bool)) (nn : Int) (ok : Bool) : Prop := ∀ (aS aL : Option Addr) (kS kL : Nat) (v : World), Gs v.heap.size aS S v → Vs v.heap.size aL L v →
  Calls Try.prog f #[.agg #[.slice aS S.length kS, .slice aL L.length kL], .int .i64 x] v fun e w' => ∃ bS cS bL cL, e = .returned (.tuple #[.agg #[.slice bS V.length cS, .slice bL U.length cL], .int .i64 nn, .bool ok]) ∧ MkH (Btw v.heap.size w'.heap.size) bS bL V U w' ∧ Below v.heap.size v w'
theorem COut.tells {t : List Sg × List (List Bool)} {k n : Nat} {v w' : World} {e : Ending} (h : COut (some t) k n v e w') : ∃ bS cS bL cL, e = .returned (.tuple #[.agg #[.slice bS (clS t.1 k).length cS, .slice bL (clL t.2 k).length cL], .int .i64 (n : Int), .bool true]) ∧ MkH (Btw v.heap.size w'.heap.size) bS bL (clS t.1 k) (clL t.2 k) w' ∧ Below v.heap.size v w' := by
  obtain ⟨vS, vL, rfl, hR, hb⟩ := h
  obtain ⟨bS, cS, bL, cL, rfl, rfl, -, -⟩ := hR.read
  exact ⟨bS, cS, bL, cL, rfl, hR.mk, hb⟩
theorem CNo.tells {v w' : World} {e : Ending} (h : CNo v e w') : ∃ bS cS bL cL, e = .returned (.tuple #[.agg #[.slice bS ([] : List Sg).length cS, .slice bL ([] : List (List Bool)).length cL], .int .i64 0, .bool false]) ∧ MkH (Btw v.heap.size w'.heap.size) bS bL ([] : List Sg) ([] : List (List Bool)) w' ∧ Below v.heap.size v w' := by
  obtain ⟨rfl, hb⟩ := h
  exact ⟨none, 0, none, 0, rfl, (HR.nil v.heap.size w').mk, hb⟩
theorem OutP.low {a b lo : Nat} {w w' : World} (h : OutP (Btw a b) w w') (hlo : lo ≤ a) (hs : lo ≤ w.heap.size) : Below lo w w' := ⟨h.os, h.tape, h.output, h.size, fun k hk => h.block k (by omega) (fun hp => by have := hp.1; omega)⟩
set_option maxHeartbeats 8000000 in
theorem law_CleanSeg (aS aL : Option Addr) (kS kL : Nat) (S : List Sg) (L : List (List Bool)) (x : Int) (w : World) (hn : S.length ≤ 9223372036854775807) (hf : ∀ s ∈ S, s.bl.length ≤ 9223372036854775807) (hn2 : L.length ≤ 9223372036854775807) (hf2 : ∀ s ∈ L, s.length ≤ 9223372036854775807)
    (hG : Gs w.heap.size aS S w) (hV : Vs w.heap.size aL L w)
    (H : FitH S L → ∃ (V : List Sg) (U : List (List Bool)) (nn : Int) (ok : Bool), FitH V U ∧ TellsCleanSeg 24 S L x V U nn ok ∧ TellsCleanSeg 25 S L x V U nn ok) :
    Calls Try.prog 8 #[.agg #[.slice aS S.length kS, .slice aL L.length kL], .int .i64 x] w fun e w' => e = .returned (.bool true) ∧ Below w.heap.size w w' := by
  have HH : Hid (FitH S L → ∃ (V : List Sg) (U : List (List Bool)) (nn : Int) (ok : Bool), FitH V U ∧ TellsCleanSeg 24 S L x V U nn ok ∧ TellsCleanSeg 25 S L x V U nn ok) := H
  obtain ⟨w0, hw0⟩ : ∃ w0, w0 = w.alloc (.cells #[.slice aS S.length kS, .slice aL L.length kL] 25) := ⟨_, rfl⟩
  have HB0 : Hid (Below w.heap.size w w0) := by show Below w.heap.size w w0; rw [hw0]; exact boxB w _
  have HZ : Hid (∀ v, Below w0.heap.size w0 v → Gs v.heap.size aS S v ∧ Vs v.heap.size aL L v) := fun v g => by
    have g' := HB0.out.trans (g.mono HB0.out.size)
    exact ⟨(hG.below g').mono g'.size, (hV.below g').mono g'.size⟩
  have HX : Hid (∀ v, Below w0.heap.size w0 v → v.cell? ⟨w.heap.size, 0, none⟩ = some (.slice aS S.length kS) ∧ v.cell? ⟨w.heap.size, 1, none⟩ = some (.slice aL L.length kL)) := fun v g => by
    have hc : ∀ i, v.cell? ⟨w.heap.size, i, none⟩ = w0.cell? ⟨w.heap.size, i, none⟩ := fun i => g.cell (p := ⟨w.heap.size, i, none⟩) (by show w.heap.size < w0.heap.size; rw [hw0]; simp)
    exact ⟨by rw [hc, hw0]; go_simp, by rw [hc, hw0]; go_simp⟩
  have HSZ : Hid (∀ v, Below w0.heap.size w0 v → Calls Try.prog 9 #[.agg #[.slice aS S.length kS, .slice aL L.length kL], .int .i64 1048576] v fun e w' => (∃ r : Int, e = .returned (.int .i64 r) ∧ (0 ≤ r → FitH S L)) ∧ Below v.heap.size v w') := fun v g => szHeap_any aS aL kS kL S L v hn hf hn2 hf2 (HZ.out v g).1 (HZ.out v g).2
  have HTO : Hid (FitH S L → ∀ v, Below w0.heap.size w0 v → Calls Try.prog 11 #[.agg #[.slice aS S.length kS, .slice aL L.length kL]] v fun e w' => ∃ RS RL, e = .returned (.agg #[.slice (some ⟨RS, 0, none⟩) S.length S.length, .slice (some ⟨RL, 0, none⟩) L.length L.length]) ∧ MkH (Btw v.heap.size w'.heap.size) (some ⟨RS, 0, none⟩) (some ⟨RL, 0, none⟩) S L w' ∧ Below v.heap.size v w') := fun f v g => (toHeap_any aS aL kS kL S L v f.1 f.2.1 f.2.2.1 f.2.2.2 (HZ.out v g).1 (HZ.out v g).2).mono fun _ _ ⟨RS, RL, e, o, b⟩ => ⟨RS, RL, e, o.mk, b⟩
  have W0 : Hid (w0 = w.alloc (.cells #[.slice aS S.length kS, .slice aL L.length kL] 25)) := hw0
  clear hG hV H hw0 hf hf2
  have B0 : Hid (Below w0.heap.size w0 w0) := Below.refl _ _
  go_enter Try.func8, Try.ntmps8
  go_wp2_with fail
  rw [← W0.out]
  refine (HSZ.out _ B0.out).mono ?_
  rintro e w1 ⟨⟨r, rfl, hr⟩, g1⟩
  have HR := hid hr
  have B1 : Hid (Below w0.heap.size w0 w1) := g1
  clear hr g1 HSZ
  by_cases p0 : 0 ≤ r
  case neg =>
    have hd0 : decide (r < 0) = true := by simp; omega
    clear HR
    go_wp2
    go_ret
    exact ⟨rfl, HB0.out.trans (B1.out.mono HB0.out.size)⟩
  have hd0 : decide (r < 0) = false := by simp; omega
  have HF := hid (HR.out p0)
  have HT := hid (HTO.out HF.out)
  obtain ⟨V, U, nn, ok, hfv, h9, h11⟩ := HH.out HF.out
  have HFV := hid hfv
  have H9 : Hid (TellsCleanSeg 24 S L x V U nn ok) := h9
  have H11 : Hid (TellsCleanSeg 25 S L x V U nn ok) := h11
  have HTT := hid (totH_le HF.out)
  have HTV := hid (totH_le HFV.out)
  have s_w1 : w0.heap.size ≤ w1.heap.size := B1.out.size
  clear h9 h11 HH HR HTO hfv
  obtain ⟨x0, x1⟩ := HX.out _ B1.out
  go_wp2_with fail
  refine (HT.out _ B1.out).mono ?_
  rintro e w2 ⟨R_w2, T_w2, rfl, o_w2, g_w2⟩
  have s_w2 : w1.heap.size ≤ w2.heap.size := g_w2.size
  have B_w2 : Hid (Below w0.heap.size w0 w2) := B1.out.trans (g_w2.mono B1.out.size)
  have HA_w2 : Hid (MkH (Btw w1.heap.size w2.heap.size) (some ⟨R_w2, 0, none⟩) (some ⟨T_w2, 0, none⟩) S L w2) := o_w2
  clear B1 o_w2 g_w2 x0 x1
  have C_w3 := hid (H9.out _ _ S.length L.length _ HA_w2.out.read.1 HA_w2.out.read.2)
  go_wp2_with fail
  refine C_w3.out.mono ?_
  rintro e w3 ⟨bS_w3, cS_w3, bL_w3, cL_w3, rfl, o_w3, g_w3⟩
  have s_w3 : w2.heap.size ≤ w3.heap.size := g_w3.size
  have B_w3 : Hid (Below w0.heap.size w0 w3) := B_w2.out.trans (g_w3.mono B_w2.out.size)
  have HW_w3 : Hid (MkH (Btw w2.heap.size w3.heap.size) bS_w3 bL_w3 V U w3) := o_w3
  clear B_w2 HA_w2 o_w3 g_w3 C_w3 
  have ga_w4 := boxB w3 (.cells #[.slice bS_w3 V.length cS_w3, .slice bL_w3 U.length cL_w3] 30)
  have hl_w4 : (w3.alloc (.cells #[.slice bS_w3 V.length cS_w3, .slice bL_w3 U.length cL_w3] 30)).heap[w3.heap.size]? = some (.cells #[.slice bS_w3 V.length cS_w3, .slice bL_w3 U.length cL_w3] 30) := heap_last _ _
  have hz_w4 : (w3.alloc (.cells #[.slice bS_w3 V.length cS_w3, .slice bL_w3 U.length cL_w3] 30)).heap.size = w3.heap.size + 1 := heap_size _ _
  generalize hw_w4 : w3.alloc (.cells #[.slice bS_w3 V.length cS_w3, .slice bL_w3 U.length cL_w3] 30) = w4 at *
  have s_w4 : w3.heap.size ≤ w4.heap.size := ga_w4.size
  have B_w4 : Hid (Below w0.heap.size w0 w4) := B_w3.out.trans (ga_w4.mono B_w3.out.size)
  have HW_w4 : Hid (MkH (Btw w2.heap.size w3.heap.size) bS_w3 bL_w3 V U w4) := HW_w3.out.on ga_w4
  have X6_w4 : Hid (w4.heap[w3.heap.size]? = some (.cells #[.slice bS_w3 V.length cS_w3, .slice bL_w3 U.length cL_w3] 30)) := hl_w4
  clear B_w3 HW_w3 ga_w4 hl_w4
  obtain ⟨x0, x1⟩ := HX.out _ B_w4.out
  go_wp2_with fail
  refine (HT.out _ B_w4.out).mono ?_
  rintro e w5 ⟨R_w5, T_w5, rfl, o_w5, g_w5⟩
  have s_w5 : w4.heap.size ≤ w5.heap.size := g_w5.size
  have B_w5 : Hid (Below w0.heap.size w0 w5) := B_w4.out.trans (g_w5.mono B_w4.out.size)
  have HW_w5 : Hid (MkH (Btw w2.heap.size w3.heap.size) bS_w3 bL_w3 V U w5) := HW_w4.out.on g_w5
  have X6_w5 : Hid (w5.heap[w3.heap.size]? = some (.cells #[.slice bS_w3 V.length cS_w3, .slice bL_w3 U.length cL_w3] 30)) := (g_w5.block w3.heap.size (by omega)).trans X6_w4.out
  have HC_w5 : Hid (MkH (Btw w4.heap.size w5.heap.size) (some ⟨R_w5, 0, none⟩) (some ⟨T_w5, 0, none⟩) S L w5) := o_w5
  clear B_w4 HW_w4 X6_w4 o_w5 g_w5 x0 x1
  have ga_w6 := boxB w5 (.cells #[.slice (some ⟨R_w5, 0, none⟩) S.length S.length, .slice (some ⟨T_w5, 0, none⟩) L.length L.length] 30)
  have hl_w6 : (w5.alloc (.cells #[.slice (some ⟨R_w5, 0, none⟩) S.length S.length, .slice (some ⟨T_w5, 0, none⟩) L.length L.length] 30)).heap[w5.heap.size]? = some (.cells #[.slice (some ⟨R_w5, 0, none⟩) S.length S.length, .slice (some ⟨T_w5, 0, none⟩) L.length L.length] 30) := heap_last _ _
  have hz_w6 : (w5.alloc (.cells #[.slice (some ⟨R_w5, 0, none⟩) S.length S.length, .slice (some ⟨T_w5, 0, none⟩) L.length L.length] 30)).heap.size = w5.heap.size + 1 := heap_size _ _
  generalize hw_w6 : w5.alloc (.cells #[.slice (some ⟨R_w5, 0, none⟩) S.length S.length, .slice (some ⟨T_w5, 0, none⟩) L.length L.length] 30) = w6 at *
  have s_w6 : w5.heap.size ≤ w6.heap.size := ga_w6.size
  have B_w6 : Hid (Below w0.heap.size w0 w6) := B_w5.out.trans (ga_w6.mono B_w5.out.size)
  have HW_w6 : Hid (MkH (Btw w2.heap.size w3.heap.size) bS_w3 bL_w3 V U w6) := HW_w5.out.on ga_w6
  have HC_w6 : Hid (MkH (Btw w4.heap.size w5.heap.size) (some ⟨R_w5, 0, none⟩) (some ⟨T_w5, 0, none⟩) S L w6) := HC_w5.out.on ga_w6
  have X6_w6 : Hid (w6.heap[w3.heap.size]? = some (.cells #[.slice bS_w3 V.length cS_w3, .slice bL_w3 U.length cL_w3] 30)) := (ga_w6.block w3.heap.size (by omega)).trans X6_w5.out
  have X8_w6 : Hid (w6.heap[w5.heap.size]? = some (.cells #[.slice (some ⟨R_w5, 0, none⟩) S.length S.length, .slice (some ⟨T_w5, 0, none⟩) L.length L.length] 30)) := hl_w6
  clear B_w5 HW_w5 HC_w5 X6_w5 ga_w6 hl_w6
  have l0X8 : w6.cell? ⟨w5.heap.size, 0, none⟩ = some (.slice (some ⟨R_w5, 0, none⟩) S.length S.length) := box_cell X8_w6.out 0
  have l1X8 : w6.cell? ⟨w5.heap.size, 1, none⟩ = some (.slice (some ⟨T_w5, 0, none⟩) L.length L.length) := box_cell X8_w6.out 1
  have C_w7 := hid (H11.out _ _ S.length L.length _ HC_w6.out.read.1 HC_w6.out.read.2)
  go_wp2_with fail
  refine C_w7.out.mono ?_
  rintro e w7 ⟨bS_w7, cS_w7, bL_w7, cL_w7, rfl, o_w7, g_w7⟩
  have s_w7 : w6.heap.size ≤ w7.heap.size := g_w7.size
  have B_w7 : Hid (Below w0.heap.size w0 w7) := B_w6.out.trans (g_w7.mono B_w6.out.size)
  have HW_w7 : Hid (MkH (Btw w2.heap.size w3.heap.size) bS_w3 bL_w3 V U w7) := HW_w6.out.on g_w7
  have HC_w7 : Hid (MkH (Btw w4.heap.size w5.heap.size) (some ⟨R_w5, 0, none⟩) (some ⟨T_w5, 0, none⟩) S L w7) := HC_w6.out.on g_w7
  have X6_w7 : Hid (w7.heap[w3.heap.size]? = some (.cells #[.slice bS_w3 V.length cS_w3, .slice bL_w3 U.length cL_w3] 30)) := (g_w7.block w3.heap.size (by omega)).trans X6_w6.out
  have X8_w7 : Hid (w7.heap[w5.heap.size]? = some (.cells #[.slice (some ⟨R_w5, 0, none⟩) S.length S.length, .slice (some ⟨T_w5, 0, none⟩) L.length L.length] 30)) := (g_w7.block w5.heap.size (by omega)).trans X8_w6.out
  have HG_w7 : Hid (MkH (Btw w6.heap.size w7.heap.size) bS_w7 bL_w7 V U w7) := o_w7
  clear B_w6 HW_w6 HC_w6 X6_w6 X8_w6 o_w7 g_w7 C_w7 l0X8 l1X8
  have ga_w8 := boxB w7 (.cells #[.slice bS_w7 V.length cS_w7, .slice bL_w7 U.length cL_w7] 30)
  have hl_w8 : (w7.alloc (.cells #[.slice bS_w7 V.length cS_w7, .slice bL_w7 U.length cL_w7] 30)).heap[w7.heap.size]? = some (.cells #[.slice bS_w7 V.length cS_w7, .slice bL_w7 U.length cL_w7] 30) := heap_last _ _
  have hz_w8 : (w7.alloc (.cells #[.slice bS_w7 V.length cS_w7, .slice bL_w7 U.length cL_w7] 30)).heap.size = w7.heap.size + 1 := heap_size _ _
  generalize hw_w8 : w7.alloc (.cells #[.slice bS_w7 V.length cS_w7, .slice bL_w7 U.length cL_w7] 30) = w8 at *
  have s_w8 : w7.heap.size ≤ w8.heap.size := ga_w8.size
  have B_w8 : Hid (Below w0.heap.size w0 w8) := B_w7.out.trans (ga_w8.mono B_w7.out.size)
  have HW_w8 : Hid (MkH (Btw w2.heap.size w3.heap.size) bS_w3 bL_w3 V U w8) := HW_w7.out.on ga_w8
  have HC_w8 : Hid (MkH (Btw w4.heap.size w5.heap.size) (some ⟨R_w5, 0, none⟩) (some ⟨T_w5, 0, none⟩) S L w8) := HC_w7.out.on ga_w8
  have HG_w8 : Hid (MkH (Btw w6.heap.size w7.heap.size) bS_w7 bL_w7 V U w8) := HG_w7.out.on ga_w8
  have X6_w8 : Hid (w8.heap[w3.heap.size]? = some (.cells #[.slice bS_w3 V.length cS_w3, .slice bL_w3 U.length cL_w3] 30)) := (ga_w8.block w3.heap.size (by omega)).trans X6_w7.out
  have X8_w8 : Hid (w8.heap[w5.heap.size]? = some (.cells #[.slice (some ⟨R_w5, 0, none⟩) S.length S.length, .slice (some ⟨T_w5, 0, none⟩) L.length L.length] 30)) := (ga_w8.block w5.heap.size (by omega)).trans X8_w7.out
  have X9_w8 : Hid (w8.heap[w7.heap.size]? = some (.cells #[.slice bS_w7 V.length cS_w7, .slice bL_w7 U.length cL_w7] 30)) := hl_w8
  clear B_w7 HW_w7 HC_w7 HG_w7 X6_w7 X8_w7 ga_w8 hl_w8
  have l0X9 : w8.cell? ⟨w7.heap.size, 0, none⟩ = some (.slice bS_w7 V.length cS_w7) := box_cell X9_w8.out 0
  have l1X9 : w8.cell? ⟨w7.heap.size, 1, none⟩ = some (.slice bL_w7 U.length cL_w7) := box_cell X9_w8.out 1
  have l0X6 : w8.cell? ⟨w3.heap.size, 0, none⟩ = some (.slice bS_w3 V.length cS_w3) := box_cell X6_w8.out 0
  have l1X6 : w8.cell? ⟨w3.heap.size, 1, none⟩ = some (.slice bL_w3 U.length cL_w3) := box_cell X6_w8.out 1
  have C_w9 := hid (fun (k1 k2 k3 k4 : Nat) => eqHeap_same _ _ _ _ k1 k2 k3 k4 _ _ w8 HFV.out.1 HFV.out.2.1 HFV.out.2.2.1 HFV.out.2.2.2 HG_w8.out.read.1 HG_w8.out.read.2 HW_w8.out.read.1 HW_w8.out.read.2)
  go_wp2_with fail
  refine (C_w9.out _ _ _ _).mono ?_
  rintro e w9 ⟨rfl, g_w9⟩
  have s_w9 : w8.heap.size ≤ w9.heap.size := g_w9.size
  have B_w9 : Hid (Below w0.heap.size w0 w9) := B_w8.out.trans (g_w9.mono B_w8.out.size)
  have HW_w9 : Hid (MkH (Btw w2.heap.size w3.heap.size) bS_w3 bL_w3 V U w9) := HW_w8.out.on g_w9
  have HC_w9 : Hid (MkH (Btw w4.heap.size w5.heap.size) (some ⟨R_w5, 0, none⟩) (some ⟨T_w5, 0, none⟩) S L w9) := HC_w8.out.on g_w9
  have HG_w9 : Hid (MkH (Btw w6.heap.size w7.heap.size) bS_w7 bL_w7 V U w9) := HG_w8.out.on g_w9
  have X6_w9 : Hid (w9.heap[w3.heap.size]? = some (.cells #[.slice bS_w3 V.length cS_w3, .slice bL_w3 U.length cL_w3] 30)) := (g_w9.block w3.heap.size (by omega)).trans X6_w8.out
  have X8_w9 : Hid (w9.heap[w5.heap.size]? = some (.cells #[.slice (some ⟨R_w5, 0, none⟩) S.length S.length, .slice (some ⟨T_w5, 0, none⟩) L.length L.length] 30)) := (g_w9.block w5.heap.size (by omega)).trans X8_w8.out
  have X9_w9 : Hid (w9.heap[w7.heap.size]? = some (.cells #[.slice bS_w7 V.length cS_w7, .slice bL_w7 U.length cL_w7] 30)) := (g_w9.block w7.heap.size (by omega)).trans X9_w8.out
  clear B_w8 HW_w8 HC_w8 HG_w8 X6_w8 X8_w8 X9_w8 g_w9 C_w9 l0X9 l1X9 l0X6 l1X6
  have HBd : Hid (Below w0.heap.size w0 w9.drew) := B_w9.out.drew
  obtain ⟨x0, x1⟩ := HX.out _ HBd.out
  have y0 : w9.cell? ⟨w5.heap.size, 0, none⟩ = some (.slice (some ⟨R_w5, 0, none⟩) S.length S.length) := box_cell X8_w9.out 0
  have y1 : w9.cell? ⟨w5.heap.size, 1, none⟩ = some (.slice (some ⟨T_w5, 0, none⟩) L.length L.length) := box_cell X8_w9.out 1
  have y0d : w9.drew.cell? ⟨w5.heap.size, 0, none⟩ = some (.slice (some ⟨R_w5, 0, none⟩) S.length S.length) := y0
  have y1d : w9.drew.cell? ⟨w5.heap.size, 1, none⟩ = some (.slice (some ⟨T_w5, 0, none⟩) L.length L.length) := y1
  have HCd := hid (HT.out _ HBd.out)
  have hs9 : w5.heap.size < w9.heap.size := by omega
  have HEQ : Hid (∀ v (aS' aL' : Option Addr) (kS' kL' : Nat), Below w9.heap.size w9 v → Gs v.heap.size aS' S v → Vs v.heap.size aL' L v → Calls Try.prog 13 #[.agg #[.slice (some ⟨R_w5, 0, none⟩) S.length S.length, .slice (some ⟨T_w5, 0, none⟩) L.length L.length], .agg #[.slice aS' S.length kS', .slice aL' L.length kL']] v fun e w' => e = .returned (.bool true) ∧ Below v.heap.size v w') := fun v aS' aL' kS' kL' g h1 h2 => eqHeap_same _ _ aS' aL' _ _ kS' kL' S L v HF.out.1 HF.out.2.1 HF.out.2.2.1 HF.out.2.2.2 (HC_w9.out.on g).read.1 (HC_w9.out.on g).read.2 h1 h2
  go_wp2_with fail
  go_region_held (fun v => v.cell? ⟨w5.heap.size, 0, none⟩ = some (.slice (some ⟨R_w5, 0, none⟩) S.length S.length) ∧ v.cell? ⟨w5.heap.size, 1, none⟩ = some (.slice (some ⟨T_w5, 0, none⟩) L.length L.length) ∧ v.cell? ⟨w.heap.size, 0, none⟩ = some (.slice aS S.length kS) ∧ v.cell? ⟨w.heap.size, 1, none⟩ = some (.slice aL L.length kL)) (first | exact ⟨by assumption, by assumption, by assumption, by assumption⟩) (first | (go_at_call 11; refine HCd.out.mono ?_; rintro e wa ⟨R7, T7, rfl, o7, g7⟩; have s7 := g7.size; have z0 := (g7.cell (p := ⟨w5.heap.size, 0, none⟩) hs9).trans y0; have z1 := (g7.cell (p := ⟨w5.heap.size, 1, none⟩) hs9).trans y1; have B7 : Hid (Below w0.heap.size w0 wa) := HBd.out.trans (g7.mono HBd.out.size); obtain ⟨z2, z3⟩ := HX.out _ B7.out) | (go_at_call 13; refine (HEQ.out wa _ _ _ _ ⟨g7.os, g7.tape, g7.output, g7.size, g7.block⟩ o7.read.1 o7.read.2).mono ?_; rintro e wb ⟨rfl, g8⟩; have t0 := (g8.cell (p := ⟨w5.heap.size, 0, none⟩) (show w5.heap.size < wa.heap.size from Nat.lt_of_lt_of_le hs9 s7)).trans z0; have t1 := (g8.cell (p := ⟨w5.heap.size, 1, none⟩) (show w5.heap.size < wa.heap.size from Nat.lt_of_lt_of_le hs9 s7)).trans z1; have B8 : Hid (Below w0.heap.size w0 wb) := B7.out.trans (g8.mono B7.out.size); obtain ⟨t2, t3⟩ := HX.out _ B8.out))
  have gd : Below w9.heap.size w9 wb := (show Below w9.heap.size w9 wa from ⟨g7.os, g7.tape, g7.output, g7.size, g7.block⟩).trans (g8.mono g7.size)
  have s_wb : w9.heap.size ≤ wb.heap.size := gd.size
  have B_wb : Hid (Below w0.heap.size w0 wb) := B_w9.out.trans (gd.mono B_w9.out.size)
  have HW_wb : Hid (MkH (Btw w2.heap.size w3.heap.size) bS_w3 bL_w3 V U wb) := HW_w9.out.on gd
  have HC_wb : Hid (MkH (Btw w4.heap.size w5.heap.size) (some ⟨R_w5, 0, none⟩) (some ⟨T_w5, 0, none⟩) S L wb) := HC_w9.out.on gd
  have HG_wb : Hid (MkH (Btw w6.heap.size w7.heap.size) bS_w7 bL_w7 V U wb) := HG_w9.out.on gd
  have X6_wb : Hid (wb.heap[w3.heap.size]? = some (.cells #[.slice bS_w3 V.length cS_w3, .slice bL_w3 U.length cL_w3] 30)) := (gd.block w3.heap.size (by omega)).trans X6_w9.out
  have X8_wb : Hid (wb.heap[w5.heap.size]? = some (.cells #[.slice (some ⟨R_w5, 0, none⟩) S.length S.length, .slice (some ⟨T_w5, 0, none⟩) L.length L.length] 30)) := (gd.block w5.heap.size (by omega)).trans X8_w9.out
  have X9_wb : Hid (wb.heap[w7.heap.size]? = some (.cells #[.slice bS_w7 V.length cS_w7, .slice bL_w7 U.length cL_w7] 30)) := (gd.block w7.heap.size (by omega)).trans X9_w9.out
  clear B_w9 HW_w9 HC_w9 HG_w9 X6_w9 X8_w9 X9_w9 HBd HCd HEQ x0 x1 y0 y1 y0d y1d z0 z1 z2 z3 t0 t1 t2 t3 o7 g7 g8 gd B7 B8 s7
  have hk0 : decide (((totH S L : Nat) : Int) < 0) = false := decide_eq_false (by omega)
  have l0X8 : wb.cell? ⟨w5.heap.size, 0, none⟩ = some (.slice (some ⟨R_w5, 0, none⟩) S.length S.length) := box_cell X8_wb.out 0
  have l1X8 : wb.cell? ⟨w5.heap.size, 1, none⟩ = some (.slice (some ⟨T_w5, 0, none⟩) L.length L.length) := box_cell X8_wb.out 1
  have C_w10 := hid (fun (k1 k2 : Nat) => markHeap_m (Btw w4.heap.size w5.heap.size) _ _ k1 k2 S L wb HF.out (fun k h => by have := h.2; omega) HC_wb.out)
  go_wp2_with fail
  refine (C_w10.out _ _).mono ?_
  rintro e w10 ⟨rfl, m_w10, g_w10⟩
  have s_w10 : wb.heap.size ≤ w10.heap.size := g_w10.size
  have B_w10 : Hid (Below w0.heap.size w0 w10) := B_wb.out.trans (g_w10.low (by have := B_wb.out.size; omega) B_wb.out.size)
  have HW_w10 : Hid (MkH (Btw w2.heap.size w3.heap.size) bS_w3 bL_w3 V U w10) := HW_wb.out.keep g_w10 (fun k h h2 => by have := h.1; have := h.2; have := h2.1; have := h2.2; omega)
  have HG_w10 : Hid (MkH (Btw w6.heap.size w7.heap.size) bS_w7 bL_w7 V U w10) := HG_wb.out.keep g_w10 (fun k h h2 => by have := h.1; have := h.2; have := h2.1; have := h2.2; omega)
  have X6_w10 : Hid (w10.heap[w3.heap.size]? = some (.cells #[.slice bS_w3 V.length cS_w3, .slice bL_w3 U.length cL_w3] 30)) := (g_w10.block w3.heap.size (by omega) (fun h2 => by have := h2.1; have := h2.2; omega)).trans X6_wb.out
  have X9_w10 : Hid (w10.heap[w7.heap.size]? = some (.cells #[.slice bS_w7 V.length cS_w7, .slice bL_w7 U.length cL_w7] 30)) := (g_w10.block w7.heap.size (by omega) (fun h2 => by have := h2.1; have := h2.2; omega)).trans X9_wb.out
  clear B_wb HW_wb HC_wb HG_wb X6_wb X8_wb X9_wb g_w10 m_w10 C_w10 l0X8 l1X8
  have l0X9 : w10.cell? ⟨w7.heap.size, 0, none⟩ = some (.slice bS_w7 V.length cS_w7) := box_cell X9_w10.out 0
  have l1X9 : w10.cell? ⟨w7.heap.size, 1, none⟩ = some (.slice bL_w7 U.length cL_w7) := box_cell X9_w10.out 1
  have l0X6 : w10.cell? ⟨w3.heap.size, 0, none⟩ = some (.slice bS_w3 V.length cS_w3) := box_cell X6_w10.out 0
  have l1X6 : w10.cell? ⟨w3.heap.size, 1, none⟩ = some (.slice bL_w3 U.length cL_w3) := box_cell X6_w10.out 1
  have C_w11 := hid (fun (k1 k2 k3 k4 : Nat) => eqHeap_same _ _ _ _ k1 k2 k3 k4 _ _ w10 HFV.out.1 HFV.out.2.1 HFV.out.2.2.1 HFV.out.2.2.2 HG_w10.out.read.1 HG_w10.out.read.2 HW_w10.out.read.1 HW_w10.out.read.2)
  go_wp2_with fail
  refine (C_w11.out _ _ _ _).mono ?_
  rintro e w11 ⟨rfl, g_w11⟩
  have s_w11 : w10.heap.size ≤ w11.heap.size := g_w11.size
  have B_w11 : Hid (Below w0.heap.size w0 w11) := B_w10.out.trans (g_w11.mono B_w10.out.size)
  have HW_w11 : Hid (MkH (Btw w2.heap.size w3.heap.size) bS_w3 bL_w3 V U w11) := HW_w10.out.on g_w11
  have HG_w11 : Hid (MkH (Btw w6.heap.size w7.heap.size) bS_w7 bL_w7 V U w11) := HG_w10.out.on g_w11
  have X6_w11 : Hid (w11.heap[w3.heap.size]? = some (.cells #[.slice bS_w3 V.length cS_w3, .slice bL_w3 U.length cL_w3] 30)) := (g_w11.block w3.heap.size (by omega)).trans X6_w10.out
  have X9_w11 : Hid (w11.heap[w7.heap.size]? = some (.cells #[.slice bS_w7 V.length cS_w7, .slice bL_w7 U.length cL_w7] 30)) := (g_w11.block w7.heap.size (by omega)).trans X9_w10.out
  clear B_w10 HW_w10 HG_w10 X6_w10 X9_w10 g_w11 C_w11 l0X9 l1X9 l0X6 l1X6
  have hk1 : decide (((totH V U : Nat) : Int) < 0) = false := decide_eq_false (by omega)
  have l0X9 : w11.cell? ⟨w7.heap.size, 0, none⟩ = some (.slice bS_w7 V.length cS_w7) := box_cell X9_w11.out 0
  have l1X9 : w11.cell? ⟨w7.heap.size, 1, none⟩ = some (.slice bL_w7 U.length cL_w7) := box_cell X9_w11.out 1
  have C_w12 := hid (fun (k1 k2 : Nat) => markHeap_m (Btw w6.heap.size w7.heap.size) _ _ k1 k2 V U w11 HFV.out (fun k h => by have := h.2; omega) HG_w11.out)
  go_wp2_with fail
  refine (C_w12.out _ _).mono ?_
  rintro e w12 ⟨rfl, m_w12, g_w12⟩
  have s_w12 : w11.heap.size ≤ w12.heap.size := g_w12.size
  have B_w12 : Hid (Below w0.heap.size w0 w12) := B_w11.out.trans (g_w12.low (by have := B_w11.out.size; omega) B_w11.out.size)
  have HW_w12 : Hid (MkH (Btw w2.heap.size w3.heap.size) bS_w3 bL_w3 V U w12) := HW_w11.out.keep g_w12 (fun k h h2 => by have := h.1; have := h.2; have := h2.1; have := h2.2; omega)
  have X6_w12 : Hid (w12.heap[w3.heap.size]? = some (.cells #[.slice bS_w3 V.length cS_w3, .slice bL_w3 U.length cL_w3] 30)) := (g_w12.block w3.heap.size (by omega) (fun h2 => by have := h2.1; have := h2.2; omega)).trans X6_w11.out
  have X9_w12 : Hid (w12.heap[w7.heap.size]? = some (.cells #[.slice bS_w7 V.length cS_w7, .slice bL_w7 U.length cL_w7] 30)) := (g_w12.block w7.heap.size (by omega) (fun h2 => by have := h2.1; have := h2.2; omega)).trans X9_w11.out
  have HGm_w12 : Hid (MkH (Btw w6.heap.size w7.heap.size) bS_w7 bL_w7 (markS V 1) (markL U (1 + totS V V.length)) w12) := m_w12
  clear B_w11 HW_w11 HG_w11 X6_w11 X9_w11 g_w12 m_w12 C_w12 l0X9 l1X9
  have l0X9 : w12.cell? ⟨w7.heap.size, 0, none⟩ = some (.slice bS_w7 V.length cS_w7) := box_cell X9_w12.out 0
  have l1X9 : w12.cell? ⟨w7.heap.size, 1, none⟩ = some (.slice bL_w7 U.length cL_w7) := box_cell X9_w12.out 1
  have C_w13 := hid (fun (k1 k2 : Nat) => heldHeap_g _ _ k1 k2 V U w12 HFV.out HGm_w12.out.read.1 HGm_w12.out.read.2)
  go_wp2_with fail
  refine (C_w13.out _ _).mono ?_
  rintro e w13 ⟨rfl, g_w13⟩
  have s_w13 : w12.heap.size ≤ w13.heap.size := g_w13.size
  have B_w13 : Hid (Below w0.heap.size w0 w13) := B_w12.out.trans (g_w13.mono B_w12.out.size)
  have HW_w13 : Hid (MkH (Btw w2.heap.size w3.heap.size) bS_w3 bL_w3 V U w13) := HW_w12.out.on g_w13
  have HGm_w13 : Hid (MkH (Btw w6.heap.size w7.heap.size) bS_w7 bL_w7 (markS V 1) (markL U (1 + totS V V.length)) w13) := HGm_w12.out.on g_w13
  have X6_w13 : Hid (w13.heap[w3.heap.size]? = some (.cells #[.slice bS_w3 V.length cS_w3, .slice bL_w3 U.length cL_w3] 30)) := (g_w13.block w3.heap.size (by omega)).trans X6_w12.out
  have X9_w13 : Hid (w13.heap[w7.heap.size]? = some (.cells #[.slice bS_w7 V.length cS_w7, .slice bL_w7 U.length cL_w7] 30)) := (g_w13.block w7.heap.size (by omega)).trans X9_w12.out
  clear B_w12 HW_w12 HGm_w12 X6_w12 X9_w12 g_w13 C_w13 l0X9 l1X9
  obtain ⟨x0, x1⟩ := HX.out _ B_w13.out
  go_wp2_with fail
  refine (HT.out _ B_w13.out).mono ?_
  rintro e w14 ⟨R_w14, T_w14, rfl, o_w14, g_w14⟩
  have s_w14 : w13.heap.size ≤ w14.heap.size := g_w14.size
  have B_w14 : Hid (Below w0.heap.size w0 w14) := B_w13.out.trans (g_w14.mono B_w13.out.size)
  have HW_w14 : Hid (MkH (Btw w2.heap.size w3.heap.size) bS_w3 bL_w3 V U w14) := HW_w13.out.on g_w14
  have HGm_w14 : Hid (MkH (Btw w6.heap.size w7.heap.size) bS_w7 bL_w7 (markS V 1) (markL U (1 + totS V V.length)) w14) := HGm_w13.out.on g_w14
  have X6_w14 : Hid (w14.heap[w3.heap.size]? = some (.cells #[.slice bS_w3 V.length cS_w3, .slice bL_w3 U.length cL_w3] 30)) := (g_w14.block w3.heap.size (by omega)).trans X6_w13.out
  have X9_w14 : Hid (w14.heap[w7.heap.size]? = some (.cells #[.slice bS_w7 V.length cS_w7, .slice bL_w7 U.length cL_w7] 30)) := (g_w14.block w7.heap.size (by omega)).trans X9_w13.out
  have HD_w14 : Hid (MkH (Btw w13.heap.size w14.heap.size) (some ⟨R_w14, 0, none⟩) (some ⟨T_w14, 0, none⟩) S L w14) := o_w14
  clear B_w13 HW_w13 HGm_w13 X6_w13 X9_w13 o_w14 g_w14 x0 x1
  have C_w15 := hid (H11.out _ _ S.length L.length _ HD_w14.out.read.1 HD_w14.out.read.2)
  go_wp2_with fail
  refine C_w15.out.mono ?_
  rintro e w15 ⟨bS_w15, cS_w15, bL_w15, cL_w15, rfl, o_w15, g_w15⟩
  have s_w15 : w14.heap.size ≤ w15.heap.size := g_w15.size
  have B_w15 : Hid (Below w0.heap.size w0 w15) := B_w14.out.trans (g_w15.mono B_w14.out.size)
  have HW_w15 : Hid (MkH (Btw w2.heap.size w3.heap.size) bS_w3 bL_w3 V U w15) := HW_w14.out.on g_w15
  have HGm_w15 : Hid (MkH (Btw w6.heap.size w7.heap.size) bS_w7 bL_w7 (markS V 1) (markL U (1 + totS V V.length)) w15) := HGm_w14.out.on g_w15
  have X6_w15 : Hid (w15.heap[w3.heap.size]? = some (.cells #[.slice bS_w3 V.length cS_w3, .slice bL_w3 U.length cL_w3] 30)) := (g_w15.block w3.heap.size (by omega)).trans X6_w14.out
  have X9_w15 : Hid (w15.heap[w7.heap.size]? = some (.cells #[.slice bS_w7 V.length cS_w7, .slice bL_w7 U.length cL_w7] 30)) := (g_w15.block w7.heap.size (by omega)).trans X9_w14.out
  have HQ_w15 : Hid (MkH (Btw w14.heap.size w15.heap.size) bS_w15 bL_w15 V U w15) := o_w15
  clear B_w14 HW_w14 HGm_w14 HD_w14 X6_w14 X9_w14 o_w15 g_w15 C_w15 
  have ga_w16 := boxB w15 (.cells #[.slice bS_w15 V.length cS_w15, .slice bL_w15 U.length cL_w15] 30)
  have hl_w16 : (w15.alloc (.cells #[.slice bS_w15 V.length cS_w15, .slice bL_w15 U.length cL_w15] 30)).heap[w15.heap.size]? = some (.cells #[.slice bS_w15 V.length cS_w15, .slice bL_w15 U.length cL_w15] 30) := heap_last _ _
  have hz_w16 : (w15.alloc (.cells #[.slice bS_w15 V.length cS_w15, .slice bL_w15 U.length cL_w15] 30)).heap.size = w15.heap.size + 1 := heap_size _ _
  generalize hw_w16 : w15.alloc (.cells #[.slice bS_w15 V.length cS_w15, .slice bL_w15 U.length cL_w15] 30) = w16 at *
  have s_w16 : w15.heap.size ≤ w16.heap.size := ga_w16.size
  have B_w16 : Hid (Below w0.heap.size w0 w16) := B_w15.out.trans (ga_w16.mono B_w15.out.size)
  have HW_w16 : Hid (MkH (Btw w2.heap.size w3.heap.size) bS_w3 bL_w3 V U w16) := HW_w15.out.on ga_w16
  have HGm_w16 : Hid (MkH (Btw w6.heap.size w7.heap.size) bS_w7 bL_w7 (markS V 1) (markL U (1 + totS V V.length)) w16) := HGm_w15.out.on ga_w16
  have HQ_w16 : Hid (MkH (Btw w14.heap.size w15.heap.size) bS_w15 bL_w15 V U w16) := HQ_w15.out.on ga_w16
  have X6_w16 : Hid (w16.heap[w3.heap.size]? = some (.cells #[.slice bS_w3 V.length cS_w3, .slice bL_w3 U.length cL_w3] 30)) := (ga_w16.block w3.heap.size (by omega)).trans X6_w15.out
  have X9_w16 : Hid (w16.heap[w7.heap.size]? = some (.cells #[.slice bS_w7 V.length cS_w7, .slice bL_w7 U.length cL_w7] 30)) := (ga_w16.block w7.heap.size (by omega)).trans X9_w15.out
  have X14_w16 : Hid (w16.heap[w15.heap.size]? = some (.cells #[.slice bS_w15 V.length cS_w15, .slice bL_w15 U.length cL_w15] 30)) := hl_w16
  clear B_w15 HW_w15 HGm_w15 HQ_w15 X6_w15 X9_w15 ga_w16 hl_w16
  have l0X14 : w16.cell? ⟨w15.heap.size, 0, none⟩ = some (.slice bS_w15 V.length cS_w15) := box_cell X14_w16.out 0
  have l1X14 : w16.cell? ⟨w15.heap.size, 1, none⟩ = some (.slice bL_w15 U.length cL_w15) := box_cell X14_w16.out 1
  have l0X6 : w16.cell? ⟨w3.heap.size, 0, none⟩ = some (.slice bS_w3 V.length cS_w3) := box_cell X6_w16.out 0
  have l1X6 : w16.cell? ⟨w3.heap.size, 1, none⟩ = some (.slice bL_w3 U.length cL_w3) := box_cell X6_w16.out 1
  have C_w17 := hid (fun (k1 k2 k3 k4 : Nat) => eqHeap_same _ _ _ _ k1 k2 k3 k4 _ _ w16 HFV.out.1 HFV.out.2.1 HFV.out.2.2.1 HFV.out.2.2.2 HQ_w16.out.read.1 HQ_w16.out.read.2 HW_w16.out.read.1 HW_w16.out.read.2)
  go_wp2_with fail
  refine (C_w17.out _ _ _ _).mono ?_
  rintro e w17 ⟨rfl, g_w17⟩
  have s_w17 : w16.heap.size ≤ w17.heap.size := g_w17.size
  have B_w17 : Hid (Below w0.heap.size w0 w17) := B_w16.out.trans (g_w17.mono B_w16.out.size)
  have HW_w17 : Hid (MkH (Btw w2.heap.size w3.heap.size) bS_w3 bL_w3 V U w17) := HW_w16.out.on g_w17
  have HGm_w17 : Hid (MkH (Btw w6.heap.size w7.heap.size) bS_w7 bL_w7 (markS V 1) (markL U (1 + totS V V.length)) w17) := HGm_w16.out.on g_w17
  have HQ_w17 : Hid (MkH (Btw w14.heap.size w15.heap.size) bS_w15 bL_w15 V U w17) := HQ_w16.out.on g_w17
  have X6_w17 : Hid (w17.heap[w3.heap.size]? = some (.cells #[.slice bS_w3 V.length cS_w3, .slice bL_w3 U.length cL_w3] 30)) := (g_w17.block w3.heap.size (by omega)).trans X6_w16.out
  have X9_w17 : Hid (w17.heap[w7.heap.size]? = some (.cells #[.slice bS_w7 V.length cS_w7, .slice bL_w7 U.length cL_w7] 30)) := (g_w17.block w7.heap.size (by omega)).trans X9_w16.out
  have X14_w17 : Hid (w17.heap[w15.heap.size]? = some (.cells #[.slice bS_w15 V.length cS_w15, .slice bL_w15 U.length cL_w15] 30)) := (g_w17.block w15.heap.size (by omega)).trans X14_w16.out
  clear B_w16 HW_w16 HGm_w16 HQ_w16 X6_w16 X9_w16 X14_w16 g_w17 C_w17 l0X14 l1X14 l0X6 l1X6
  have l0X9 : w17.cell? ⟨w7.heap.size, 0, none⟩ = some (.slice bS_w7 V.length cS_w7) := box_cell X9_w17.out 0
  have l1X9 : w17.cell? ⟨w7.heap.size, 1, none⟩ = some (.slice bL_w7 U.length cL_w7) := box_cell X9_w17.out 1
  have C_w18 := hid (fun (k1 k2 : Nat) => heldHeap_g _ _ k1 k2 V U w17 HFV.out HGm_w17.out.read.1 HGm_w17.out.read.2)
  go_wp2_with fail
  refine (C_w18.out _ _).mono ?_
  rintro e w18 ⟨rfl, g_w18⟩
  have s_w18 : w17.heap.size ≤ w18.heap.size := g_w18.size
  have B_w18 : Hid (Below w0.heap.size w0 w18) := B_w17.out.trans (g_w18.mono B_w17.out.size)
  have HW_w18 : Hid (MkH (Btw w2.heap.size w3.heap.size) bS_w3 bL_w3 V U w18) := HW_w17.out.on g_w18
  have HGm_w18 : Hid (MkH (Btw w6.heap.size w7.heap.size) bS_w7 bL_w7 (markS V 1) (markL U (1 + totS V V.length)) w18) := HGm_w17.out.on g_w18
  have HQ_w18 : Hid (MkH (Btw w14.heap.size w15.heap.size) bS_w15 bL_w15 V U w18) := HQ_w17.out.on g_w18
  have X6_w18 : Hid (w18.heap[w3.heap.size]? = some (.cells #[.slice bS_w3 V.length cS_w3, .slice bL_w3 U.length cL_w3] 30)) := (g_w18.block w3.heap.size (by omega)).trans X6_w17.out
  have X9_w18 : Hid (w18.heap[w7.heap.size]? = some (.cells #[.slice bS_w7 V.length cS_w7, .slice bL_w7 U.length cL_w7] 30)) := (g_w18.block w7.heap.size (by omega)).trans X9_w17.out
  have X14_w18 : Hid (w18.heap[w15.heap.size]? = some (.cells #[.slice bS_w15 V.length cS_w15, .slice bL_w15 U.length cL_w15] 30)) := (g_w18.block w15.heap.size (by omega)).trans X14_w17.out
  clear B_w17 HW_w17 HGm_w17 HQ_w17 X6_w17 X9_w17 X14_w17 g_w18 C_w18 l0X9 l1X9
  go_wp2
  go_ret
  exact ⟨rfl, HB0.out.trans (B_w18.out.mono HB0.out.size)⟩
theorem wrs_lens (no : Int) : ∀ (bs : List Int) (S : List Sg) (L : List (List Bool)) (t : List Sg × List (List Bool)), Lens S L 6 → wrs no bs (S, L) = some t → Lens t.1 t.2 6
  | [], S, L, t, hl, h => by
    have h' : some (S, L) = some t := h
    obtain rfl := (Option.some.inj h')
    exact hl
  | x :: r, S, L, t, hl, h => by
    have h' : (match wrH S L x no with | some u => wrs no r u | none => none) = some t := h
    cases hr : roomH S no with
    | none =>
      have e : wrH S L x no = none := by unfold wrH; rw [hr]; rfl
      rw [e] at h'; cases h'
    | some to =>
      have e : wrH S L x no = some (putS S to x, putL (offL L (whereH S L x)) to) := by unfold wrH; rw [hr]; rfl
      rw [e] at h'
      obtain ⟨hto, h5⟩ := roomH_lt S no to hr
      exact wrs_lens no r _ _ t (hl.put6 _ to hto h5 x) h'
theorem cl_fit {S : List Sg} {L : List (List Bool)} (h : Lens S L 6) (k : Nat) : FitH (clS S k) (clL L k) := by
  have hS := h.1
  have hL := h.2.1
  refine ⟨by rw [clS_len]; omega, fun j hj => ?_, by rw [clL_len]; omega, fun j hj => ?_⟩
  · have e := blAt_eq _ _ hj
    rw [← e]
    unfold clS at hj ⊢
    rw [List.length_set, agesN_len] at hj
    rw [blAt_set _ _ _ _ (by rw [agesN_len]; exact hj)]
    by_cases e : j = k
    · rw [if_pos e]; decide
    · rw [if_neg e, agesN_bl S _ j hj]; have := (h.2.2 j hj).2; omega
  · have e := lvAt_eq _ _ hj
    rw [← e]
    unfold clL at hj ⊢
    rw [List.length_set] at hj
    rw [lvAt_set _ _ _ _ hj]
    by_cases e : j = k
    · rw [if_pos e]; decide
    · have h9 := h.2.2 j (by omega)
      rw [if_neg e, h9.1]; omega
theorem walk_CleanSeg (aS aL : Option Addr) (kS kL : Nat) (S : List Sg) (L : List (List Bool)) (x : Int) (w : World) (hn : S.length ≤ 9223372036854775807) (hf : ∀ s ∈ S, s.bl.length ≤ 9223372036854775807) (hn2 : L.length ≤ 9223372036854775807) (hf2 : ∀ s ∈ L, s.length ≤ 9223372036854775807) (hG : Gs w.heap.size aS S w) (hV : Vs w.heap.size aL L w) (_hk : fit x) : Calls Try.prog 8 #[.agg #[.slice aS S.length kS, .slice aL L.length kL], .int .i64 x] w fun e w' => e = .returned (.bool true) ∧ Below w.heap.size w w' := by
  refine law_CleanSeg aS aL kS kL S L x w hn hf hn2 hf2 hG hV fun hfit => ?_
  by_cases h : goodH S L = true ∧ 0 ≤ x ∧ x < S.length ∧ lenAt S x.toNat ≠ 0
  · obtain ⟨hg, hx0, hx1, hx2⟩ := h
    obtain ⟨k, rfl⟩ : ∃ k : Nat, x = k := ⟨x.toNat, by omega⟩
    rw [Int.toNat_natCast] at hx2
    have hk : k < S.length := by omega
    have hl : L.length = S.length := by
      rcases Nat.decEq L.length S.length with e | e
      · rw [goodH_len S L e] at hg; cases hg
      · exact e
    have hs := fun (aS aL : Option Addr) (kS kL : Nat) v a b => sClean_go aS aL kS kL S L k v hl hg hk hx2 a b
    have hi := fun (aS aL : Option Addr) (kS kL : Nat) v a b => iClean_go aS aL kS kL S L k v hl hg hk hx2 a b
    cases ho : wrs k (livB (blAt S k) (lvAt L k)) (S, L) with
    | none =>
      rw [ho] at hs hi
      exact ⟨[], [], 0, false, ⟨by simp, fun k h => absurd h (by simp), by simp, fun k h => absurd h (by simp)⟩, fun aS aL kS kL v a b => (hs aS aL kS kL v a b).mono fun _ _ h => CNo.tells h, fun aS aL kS kL v a b => (hi aS aL kS kL v a b).mono fun _ _ h => CNo.tells h⟩
    | some t =>
      rw [ho] at hs hi
      exact ⟨clS t.1 k, clL t.2 k, _, true, cl_fit (wrs_lens _ _ S L t (Lens.good hl hg) ho) k, fun aS aL kS kL v a b => (hs aS aL kS kL v a b).mono fun _ _ h => COut.tells h, fun aS aL kS kL v a b => (hi aS aL kS kL v a b).mono fun _ _ h => COut.tells h⟩
  · exact ⟨[], [], 0, false, ⟨by simp, fun k h => absurd h (by simp), by simp, fun k h => absurd h (by simp)⟩, fun aS aL kS kL v a b => (sClean_no aS aL kS kL S L x v h a b).mono fun _ _ h => CNo.tells h, fun aS aL kS kL v a b => (iClean_no aS aL kS kL S L x v h a b).mono fun _ _ h => CNo.tells h⟩
end Go.Proofs.Ytaabcbhiknacaaa
