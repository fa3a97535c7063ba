/- The program's AllBlocks. -/
import Derived.Test.YtohkhcjdjjlfbaaQSrt
import Derived.Test.YtohkhcjdjjlfbaaQMath
import Derived.Test.YtohkhcjdjjlfbaaHA
namespace Go.Proofs.Ytohkhcjdjjlfbaa.Q
set_option maxRecDepth 100000
open Go Go.ChangeShapes Go.WideShapes Go.ChangeAt Go.RowKit G00541
set_option maxHeartbeats 1000000 in
theorem iAll_no (aS aL : Option Addr) (kS kL : Nat) (S : List Sg) (L : List (List Bool)) (w : World) (hg : goodH S L = false) (hG : Gs w.heap.size aS S w) (hV : Vs w.heap.size aL L w) :
    Calls Try.prog 13 #[.agg #[.slice aS S.length kS, .slice aL L.length kL]] w fun e w' => LOut [] false w e w' := by
  have HB := hid (Bx.start w (.cells #[.slice aS S.length kS, .slice aL L.length kL] 26))
  have y0 := box_cell HB.out.box 0
  have y1 := box_cell HB.out.box 1
  have HC := hid (igoodH_any aS aL kS kL S L _ ((hG.below HB.out.below).mono HB.out.below.size) ((hV.below HB.out.below).mono HB.out.below.size))
  rw [hg] at HC
  clear hG hV hg
  generalize hW : w.alloc (.cells #[.slice aS S.length kS, .slice aL L.length kL] 26) = W at *
  go_enter Try.func13, Try.ntmps13
  go_wp2_with fail
  refine HC.out.mono ?_
  rintro e w2 ⟨rfl, hb2⟩
  have HB2 := hid (HB.out.on hb2).below
  clear hb2 hW y0 y1 HC HB
  go_wp2_with fail
  go_ret2
  exact LOut.no HB2.out
set_option maxHeartbeats 2000000 in
theorem iAll_yes (aS aL : Option Addr) (kS kL : Nat) (S : List Sg) (L : List (List Bool)) (w : World) (hl : L.length = S.length) (hg : goodH S L = true) (hG : Gs w.heap.size aS S w) (hV : Vs w.heap.size aL L w) :
    Calls Try.prog 13 #[.agg #[.slice aS S.length kS, .slice aL L.length kL]] w fun e w' => LOut (sortN (flatB S L)) true w e w' := by
  rw [hl]
  have HB := hid (Bx.start w (.cells #[.slice aS S.length kS, .slice aL S.length kL] 26))
  have y0 := box_cell HB.out.box 0
  have y1 := box_cell HB.out.box 1
  have hc := igoodH_any aS aL kS kL S L _ ((hG.below HB.out.below).mono HB.out.below.size) ((hV.below HB.out.below).mono HB.out.below.size)
  rw [hl, hg] at hc
  have HC := hid hc
  obtain ⟨⟨_, h8⟩, hgs, _⟩ := (goodH_iff S L hl).1 hg
  have H6 : Hid (∀ k (h : k < S.length), S[k].bl.length ≤ 6 ∧ (L[k]'(by omega)).length = S[k].bl.length) := fun k h => by
    obtain ⟨a, _, _, _, b⟩ := (goodS_iff _ _).1 (hgs k h)
    exact ⟨a, b⟩
  have HLEN := hid (flatB_len S L hl (fun k h => (H6.out k h).1))
  have HG := hid hG
  have HV := hid hV
  clear hG hV hg hgs hc
  generalize hW : w.alloc (.cells #[.slice aS S.length kS, .slice aL S.length kL] 26) = W at *
  go_enter Try.func13, Try.ntmps13
  go_wp2_with fail
  refine HC.out.mono ?_
  rintro e w2 ⟨rfl, hb2⟩
  have HB2 := hid (HB.out.on hb2)
  have hlt2 := HB2.out.lt
  clear hb2 hW y0 y1 HC HB
  have y0 := box_cell HB2.out.box 0
  go_wp2_with fail
  go_loopw [4, 12] (fun o i wr => ∃ (k : Nat) (o1 : Value), k ≤ S.length ∧ i = .int .i64 k ∧ o = o1 ∧ AL w2.heap.size o1 (flatB (S.take k) (L.take k)) wr ∧ Below w2.heap.size w2 wr) (fun _ i _ => S.length - (intOf i).toNat)
  case atStart => exact ⟨0, _, Nat.zero_le _, rfl, rfl, by rw [List.take_zero, flatB_nil]; exact AL.nil _ _, Below.refl _ _⟩
  case round =>
    clear y0
    obtain ⟨k, _, hk, rfl, rfl, hown, hbel⟩ := hrel
    have HO := hid hown
    have HBEL := hid hbel
    have hbx : Bx w (.cells #[.slice aS S.length kS, .slice aL S.length kL] 26) wr := HB2.out.on hbel
    have HBX := hid hbx
    clear hown hbel
    by_cases hlt : k < S.length
    · have y0 := box_cell hbx.box 0
      have y1 := box_cell hbx.box 1
      have hb6 := (H6.out k hlt).1
      have hv6 := (H6.out k hlt).2
      have hp := (liveBlocks_any aS aL kS kL S L k wr hlt h8 hl hb6 hv6 ((HG.out.below HBX.out.below).mono HBX.out.below.size) ((HV.out.below HBX.out.below).mono HBX.out.below.size))
      have HST := hid (flatB_take S L k hlt (by omega))
      have hlen := HLEN.out k hk
      have hlv := livB_len S[k].bl (L[k]'(by omega))
      clear hbx hv6
      generalize livB S[k].bl (L[k]'(by omega)) = M at *
      generalize flatB (S.take k) (L.take k) = F at *
      rw [hl] at hp
      have HP := hid hp
      clear hp
      have hszr := HBEL.out.size
      have hM : M.length ≤ 6 := Nat.le_trans hlv hb6
      clear hlv hb6
      go_wp2_with fail
      refine HP.out.mono ?_
      rintro e w5 ⟨b5, c5, rfl, o5, g5⟩
      obtain ⟨v6, w6, r6, o6, g6, -⟩ := (HO.out.below g5).app (Nat.le_trans hszr g5.size) b5 c5 M o5.is (by omega)
      have HO6 := hid o6
      have HB6 : Hid (Below w2.heap.size w2 w6) := (HBEL.out.trans (g5.mono hszr)).trans g6
      clear o5 g5 o6 g6 HP HBX HO y0 y1
      go_wp2_with (at_builtin; refine wpList_append_run rfl (.tmp 15) (.tmp 18) 35 rfl _ _ rfl rfl _ _ r6 ?_)
      go_roundw
      case rel => exact ⟨k + 1, _, by omega, by go_num, rfl, by rw [HST.out]; exact HO6.out, HB6.out⟩
      case measure => simp [intOf]; omega
    · have HT : Hid (flatB (S.take k) (L.take k) = flatB S L) := by
        show _ = _
        rw [List.take_of_length_le (by omega), List.take_of_length_le (by omega)]
      have hlen := HLEN.out k hk
      rw [HT.out] at HO hlen
      have HS := hid (sortAL _ _ _ wr (by omega) HO.out HBEL.out.size)
      clear hbx HO HBX hlen
      go_wp2_with fail
      refine HS.out.mono ?_
      rintro e w7 ⟨rfl, o7, g7⟩
      have HO7 := hid (o7.mono (Nat.le_of_lt hlt2))
      have HB7 : Hid (Below w.heap.size w w7) := HB2.out.below.trans ((HBEL.out.trans g7).mono (Nat.le_of_lt hlt2))
      clear o7 g7 HS
      go_wp2_with fail
      go_ret2
      exact LOut.yes HO7.out HB7.out
end Go.Proofs.Ytohkhcjdjjlfbaa.Q
