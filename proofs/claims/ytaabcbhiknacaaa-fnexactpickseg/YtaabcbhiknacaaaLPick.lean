/- The exact law of PickSeg: its walk out of the contracts of the model and of the program. -/
import Derived.Test.YtaabcbhiknacaaaIPick
import Derived.Test.YtaabcbhiknacaaaHSz
import Derived.Test.YtaabcbhiknacaaaHEq
import Derived.Test.YtaabcbhiknacaaaHToH
import Derived.Test.YtaabcbhiknacaaaHOpen
import Derived.Deep.RegionHeld
namespace Go.Proofs.Ytaabcbhiknacaaa
set_option maxRecDepth 100000
open Go.ChangeShapes Go.WideShapes Go.ChangeAt Go.RowKit G00541
/-- function f answers so -/
def TellsPickSeg (f : Nat) (S : List Sg) (L : List (List Bool)) (how : Int) (n : Int) (x : Bool) : Prop := ∀ (aS aL : Option Addr) (kS kL : Nat) (v : World), Gs v.heap.size aS S v → Vs v.heap.size aL L v →
  Calls Try.prog f #[.agg #[.slice aS S.length kS, .slice aL L.length kL], .int .i64 how] v fun e w' => e = .returned (.tuple #[.int .i64 n, .bool x]) ∧ Below v.heap.size v w'
set_option maxHeartbeats 8000000 in
theorem law_PickSeg (aS aL : Option Addr) (kS kL : Nat) (S : List Sg) (L : List (List Bool)) (how : Int) (w : World) (hn : S.length ≤ 9223372036854775807) (hf : ∀ s ∈ S, s.bl.length ≤ 9223372036854775807) (hn2 : L.length ≤ 9223372036854775807) (hf2 : ∀ s ∈ L, s.length ≤ 9223372036854775807)
    (hG : Gs w.heap.size aS S w) (hV : Vs w.heap.size aL L w)
    (H : FitH S L → ∃ (n : Int) (x : Bool), TellsPickSeg 22 S L how n x ∧ TellsPickSeg 23 S L how n x) :
    Calls Try.prog 7 #[.agg #[.slice aS S.length kS, .slice aL L.length kL], .int .i64 how] w fun e w' => e = .returned (.bool true) ∧ Below w.heap.size w w' := by
  have HH : Hid (FitH S L → ∃ (n : Int) (x : Bool), TellsPickSeg 22 S L how n x ∧ TellsPickSeg 23 S L how n x) := H
  obtain ⟨w0, hw0⟩ : ∃ w0, w0 = w.alloc (.cells #[.slice aS S.length kS, .slice aL L.length kL] 25) := ⟨_, rfl⟩
  have HB0 : Hid (Below w.heap.size w w0) := by show Below w.heap.size w w0; rw [hw0]; exact boxB w _
  have HZ : Hid (∀ v, Below w0.heap.size w0 v → Gs v.heap.size aS S v ∧ Vs v.heap.size aL L v) := fun v g => by
    have g' := HB0.out.trans (g.mono HB0.out.size)
    exact ⟨(hG.below g').mono g'.size, (hV.below g').mono g'.size⟩
  have HX : Hid (∀ v, Below w0.heap.size w0 v → v.cell? ⟨w.heap.size, 0, none⟩ = some (.slice aS S.length kS) ∧ v.cell? ⟨w.heap.size, 1, none⟩ = some (.slice aL L.length kL)) := fun v g => by
    have hc : ∀ i, v.cell? ⟨w.heap.size, i, none⟩ = w0.cell? ⟨w.heap.size, i, none⟩ := fun i => g.cell (p := ⟨w.heap.size, i, none⟩) (by show w.heap.size < w0.heap.size; rw [hw0]; simp)
    exact ⟨by rw [hc, hw0]; go_simp, by rw [hc, hw0]; go_simp⟩
  have HSZ : Hid (∀ v, Below w0.heap.size w0 v → Calls Try.prog 9 #[.agg #[.slice aS S.length kS, .slice aL L.length kL], .int .i64 1048576] v fun e w' => (∃ r : Int, e = .returned (.int .i64 r) ∧ (0 ≤ r → FitH S L)) ∧ Below v.heap.size v w') := fun v g => szHeap_any aS aL kS kL S L v hn hf hn2 hf2 (HZ.out v g).1 (HZ.out v g).2
  have HTO : Hid (FitH S L → ∀ v, Below w0.heap.size w0 v → Calls Try.prog 11 #[.agg #[.slice aS S.length kS, .slice aL L.length kL]] v fun e w' => ∃ RS RL, e = .returned (.agg #[.slice (some ⟨RS, 0, none⟩) S.length S.length, .slice (some ⟨RL, 0, none⟩) L.length L.length]) ∧ HOw v.heap.size w'.heap.size RS RL S L w' ∧ Below v.heap.size v w') := fun f v g => toHeap_any aS aL kS kL S L v f.1 f.2.1 f.2.2.1 f.2.2.2 (HZ.out v g).1 (HZ.out v g).2
  have W0 : Hid (w0 = w.alloc (.cells #[.slice aS S.length kS, .slice aL L.length kL] 25)) := hw0
  clear hG hV H hw0 hf hf2
  have B0 : Hid (Below w0.heap.size w0 w0) := Below.refl _ _
  go_enter Try.func7, Try.ntmps7
  go_wp2_with fail
  rw [← W0.out]
  refine (HSZ.out _ B0.out).mono ?_
  rintro e w1 ⟨⟨r, rfl, hr⟩, g1⟩
  have HR := hid hr
  have B1 : Hid (Below w0.heap.size w0 w1) := g1
  clear hr g1 HSZ
  by_cases p0 : 0 ≤ r
  case neg =>
    have hd0 : decide (r < 0) = true := by simp; omega
    clear HR
    go_wp2
    go_ret
    exact ⟨rfl, HB0.out.trans (B1.out.mono HB0.out.size)⟩
  have hd0 : decide (r < 0) = false := by simp; omega
  have HF := hid (HR.out p0)
  have HT := hid (HTO.out HF.out)
  obtain ⟨n, x, h9, h11⟩ := HH.out HF.out
  have H9 : Hid (TellsPickSeg 22 S L how n x) := h9
  have H11 : Hid (TellsPickSeg 23 S L how n x) := h11
  clear h9 h11 HH HR HTO
  obtain ⟨x0, x1⟩ := HX.out _ B1.out
  go_wp2_with fail
  refine (HT.out _ B1.out).mono ?_
  rintro e w2 ⟨R2, T2, rfl, o2, g2⟩
  have B2 : Hid (Below w0.heap.size w0 w2) := B1.out.trans (g2.mono B1.out.size)
  have C2 := hid (H9.out _ _ S.length L.length _ o2.gs.1 o2.gs.2)
  clear o2 g2 x0 x1
  go_wp2_with fail
  refine C2.out.mono ?_
  rintro e w3 ⟨rfl, g3⟩
  have B3 : Hid (Below w0.heap.size w0 w3) := B2.out.trans (g3.mono B2.out.size)
  clear g3 C2 B2 H9
  obtain ⟨x0, x1⟩ := HX.out _ B3.out
  go_wp2_with fail
  refine (HT.out _ B3.out).mono ?_
  rintro e w4 ⟨R4, T4, rfl, o4, g4⟩
  have B4 : Hid (Below w0.heap.size w0 w4) := B3.out.trans (g4.mono B3.out.size)
  have O4 := hid o4
  clear o4 g4 x0 x1
  go_wp2_with fail
  have G5 : Hid (Below w4.heap.size w4 (w4.alloc (.cells #[.slice (some ⟨R4, 0, none⟩) S.length S.length, .slice (some ⟨T4, 0, none⟩) L.length L.length] 30))) := boxB _ _
  have y0 : (w4.alloc (.cells #[.slice (some ⟨R4, 0, none⟩) S.length S.length, .slice (some ⟨T4, 0, none⟩) L.length L.length] 30)).cell? ⟨w4.heap.size, 0, none⟩ = some (.slice (some ⟨R4, 0, none⟩) S.length S.length) := by go_simp
  have y1 : (w4.alloc (.cells #[.slice (some ⟨R4, 0, none⟩) S.length S.length, .slice (some ⟨T4, 0, none⟩) L.length L.length] 30)).cell? ⟨w4.heap.size, 1, none⟩ = some (.slice (some ⟨T4, 0, none⟩) L.length L.length) := by go_simp
  have hsz5 : (w4.alloc (.cells #[.slice (some ⟨R4, 0, none⟩) S.length S.length, .slice (some ⟨T4, 0, none⟩) L.length L.length] 30)).heap.size = w4.heap.size + 1 := heap_size _ _
  generalize hw5 : w4.alloc (.cells #[.slice (some ⟨R4, 0, none⟩) S.length S.length, .slice (some ⟨T4, 0, none⟩) L.length L.length] 30) = w5 at *
  have O5 := hid (O4.out.on G5.out)
  have B5 : Hid (Below w0.heap.size w0 w5) := B4.out.trans (G5.out.mono B4.out.size)
  have C5 := hid (H11.out _ _ S.length L.length _ O5.out.gs.1 O5.out.gs.2)
  clear hw5 O4 G5 B4 H11
  go_wp2_with fail
  refine C5.out.mono ?_
  rintro e w6 ⟨rfl, g6⟩
  have B6 : Hid (Below w0.heap.size w0 w6) := B5.out.trans (g6.mono B5.out.size)
  have O6 := hid (O5.out.on g6)
  rw [← g6.cell (p := ⟨w4.heap.size, 0, none⟩) (show w4.heap.size < w5.heap.size by omega)] at y0
  rw [← g6.cell (p := ⟨w4.heap.size, 1, none⟩) (show w4.heap.size < w5.heap.size by omega)] at y1
  have hs6 : w4.heap.size < w6.heap.size := by have := g6.size; omega
  clear g6 C5 O5 B5
  have HBd : Hid (Below w0.heap.size w0 w6.drew) := B6.out.drew
  obtain ⟨x0, x1⟩ := HX.out _ HBd.out
  have y0d : w6.drew.cell? ⟨w4.heap.size, 0, none⟩ = some (.slice (some ⟨R4, 0, none⟩) S.length S.length) := y0
  have y1d : w6.drew.cell? ⟨w4.heap.size, 1, none⟩ = some (.slice (some ⟨T4, 0, none⟩) L.length L.length) := y1
  have HCd := hid (HT.out _ HBd.out)
  have Od := hid (O6.out.on (belowN w6 1))
  have HEQ : Hid (∀ v (aS' aL' : Option Addr) (kS' kL' : Nat), Below w6.heap.size w6 v → Gs v.heap.size aS' S v → Vs v.heap.size aL' L v → Calls Try.prog 13 #[.agg #[.slice (some ⟨R4, 0, none⟩) S.length S.length, .slice (some ⟨T4, 0, none⟩) L.length L.length], .agg #[.slice aS' S.length kS', .slice aL' L.length kL']] v fun e w' => e = .returned (.bool true) ∧ Below v.heap.size v w') := fun v aS' aL' kS' kL' g h1 h2 => eqHeap_same _ _ aS' aL' _ _ kS' kL' S L v HF.out.1 HF.out.2.1 HF.out.2.2.1 HF.out.2.2.2 (O6.out.on g).gs.1 (O6.out.on g).gs.2 h1 h2
  go_wp2_with fail
  go_region_held (fun v => v.cell? ⟨w4.heap.size, 0, none⟩ = some (.slice (some ⟨R4, 0, none⟩) S.length S.length) ∧ v.cell? ⟨w4.heap.size, 1, none⟩ = some (.slice (some ⟨T4, 0, none⟩) L.length L.length) ∧ v.cell? ⟨w.heap.size, 0, none⟩ = some (.slice aS S.length kS) ∧ v.cell? ⟨w.heap.size, 1, none⟩ = some (.slice aL L.length kL)) (first | exact ⟨by assumption, by assumption, by assumption, by assumption⟩) (first | (go_at_call 11; refine HCd.out.mono ?_; rintro e w7 ⟨R7, T7, rfl, o7, g7⟩; have s7 := g7.size; have z0 := (g7.cell (p := ⟨w4.heap.size, 0, none⟩) hs6).trans y0; have z1 := (g7.cell (p := ⟨w4.heap.size, 1, none⟩) hs6).trans y1; have B7 : Hid (Below w0.heap.size w0 w7) := HBd.out.trans (g7.mono HBd.out.size); obtain ⟨z2, z3⟩ := HX.out _ B7.out) | (go_at_call 13; refine (HEQ.out w7 _ _ _ _ ⟨g7.os, g7.tape, g7.output, g7.size, g7.block⟩ o7.gs.1 o7.gs.2).mono ?_; rintro e w8 ⟨rfl, g8⟩; have t0 := (g8.cell (p := ⟨w4.heap.size, 0, none⟩) (show w4.heap.size < w7.heap.size from Nat.lt_of_lt_of_le hs6 s7)).trans z0; have t1 := (g8.cell (p := ⟨w4.heap.size, 1, none⟩) (show w4.heap.size < w7.heap.size from Nat.lt_of_lt_of_le hs6 s7)).trans z1; have B8 : Hid (Below w0.heap.size w0 w8) := B7.out.trans (g8.mono B7.out.size); obtain ⟨t2, t3⟩ := HX.out _ B8.out))
  all_goals
    clear x0 x1 y0 y1 y0d y1d z0 z1 z2 z3 t0 t1 t2 t3 o7 g7 g8 HBd HCd HEQ
    go_wp2
    go_ret
    exact ⟨rfl, HB0.out.trans (B8.out.mono HB0.out.size)⟩
theorem walk_PickSeg (aS aL : Option Addr) (kS kL : Nat) (S : List Sg) (L : List (List Bool)) (how : Int) (w : World) (hn : S.length ≤ 9223372036854775807) (hf : ∀ s ∈ S, s.bl.length ≤ 9223372036854775807) (hn2 : L.length ≤ 9223372036854775807) (hf2 : ∀ s ∈ L, s.length ≤ 9223372036854775807) (hG : Gs w.heap.size aS S w) (hV : Vs w.heap.size aL L w) (_hk : fit how) : Calls Try.prog 7 #[.agg #[.slice aS S.length kS, .slice aL L.length kL], .int .i64 how] w fun e w' => e = .returned (.bool true) ∧ Below w.heap.size w w' := by
  refine law_PickSeg aS aL kS kL S L how w hn hf hn2 hf2 hG hV fun hfit => ?_
  by_cases h : goodH S L = true ∧ 1 ≤ how ∧ how ≤ 2
  · obtain ⟨hg, h0, h1⟩ := h
    have hl : L.length = S.length := by
      rcases Nat.decEq L.length S.length with e | e
      · rw [goodH_len S L e] at hg; cases hg
      · exact e
    have hs := fun (aS aL : Option Addr) (kS kL : Nat) v a b => sPick_yes aS aL kS kL S L how v hl hg h0 h1 a b
    have hi : ∀ (aS aL : Option Addr) (kS kL : Nat) v, Gs v.heap.size aS S v → Vs v.heap.size aL L v → Calls Try.prog 23 #[.agg #[.slice aS S.length kS, .slice aL L.length kL], .int .i64 how] v fun e w' => e = pickOf (bestH S L how S.length) ∧ Below v.heap.size v w' := fun aS aL kS kL v a b => by
      rcases (show how = 1 ∨ how = 2 by omega) with rfl | rfl
      · exact iPick1_yes aS aL kS kL S L v hl hg a b
      · exact iPick2_yes aS aL kS kL S L v hl hg a b
    cases ho : bestH S L how S.length with
    | none => exact ⟨0, false, fun aS aL kS kL v a b => by have := hs aS aL kS kL v a b; rw [ho] at this; exact this, fun aS aL kS kL v a b => by have := hi aS aL kS kL v a b; rw [ho] at this; exact this⟩
    | some t => exact ⟨t, true, fun aS aL kS kL v a b => by have := hs aS aL kS kL v a b; rw [ho] at this; exact this, fun aS aL kS kL v a b => by have := hi aS aL kS kL v a b; rw [ho] at this; exact this⟩
  · exact ⟨0, false, fun aS aL kS kL v a b => sPick_no aS aL kS kL S L how v h a b, fun aS aL kS kL v a b => iPick_no aS aL kS kL S L how v h a b⟩
end Go.Proofs.Ytaabcbhiknacaaa
