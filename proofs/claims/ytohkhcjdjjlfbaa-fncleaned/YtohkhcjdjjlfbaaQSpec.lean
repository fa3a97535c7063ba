/- The model's AllBlocks. -/
import Derived.Test.YtohkhcjdjjlfbaaQPut
import Derived.Test.YtohkhcjdjjlfbaaQMath
import Derived.Test.YtohkhcjdjjlfbaaHA
namespace Go.Proofs.Ytohkhcjdjjlfbaa.Q
set_option maxRecDepth 100000
open Go Go.ChangeShapes Go.WideShapes Go.ChangeAt Go.RowKit G00541
set_option maxHeartbeats 1000000 in
theorem sAll_no (aS aL : Option Addr) (kS kL : Nat) (S : List Sg) (L : List (List Bool)) (w : World) (hg : goodH S L = false) (hG : Gs w.heap.size aS S w) (hV : Vs w.heap.size aL L w) :
    Calls Try.prog 29 #[.agg #[.slice aS S.length kS, .slice aL L.length kL]] w fun e w' => LOut [] false w e w' := by
  have HB := hid (Bx.start w (.cells #[.slice aS S.length kS, .slice aL L.length kL] 26))
  have y0 := box_cell HB.out.box 0
  have y1 := box_cell HB.out.box 1
  have HC := hid (sgoodH_any aS aL kS kL S L _ ((hG.below HB.out.below).mono HB.out.below.size) ((hV.below HB.out.below).mono HB.out.below.size))
  rw [hg] at HC
  clear hG hV hg
  generalize hW : w.alloc (.cells #[.slice aS S.length kS, .slice aL L.length kL] 26) = W at *
  go_enter Try.func29, Try.ntmps29
  go_wp2_with fail
  refine HC.out.mono ?_
  rintro e w2 ⟨rfl, hb2⟩
  have HB2 := hid (HB.out.on hb2).below
  clear hb2 hW y0 y1 HC HB
  go_wp2_with fail
  go_ret2
  exact LOut.no HB2.out
set_option maxHeartbeats 2000000 in
theorem sAll_yes (aS aL : Option Addr) (kS kL : Nat) (S : List Sg) (L : List (List Bool)) (w : World) (hl : L.length = S.length) (hg : goodH S L = true) (hG : Gs w.heap.size aS S w) (hV : Vs w.heap.size aL L w) :
    Calls Try.prog 29 #[.agg #[.slice aS S.length kS, .slice aL L.length kL]] w fun e w' => LOut (sortN (flatB S L)) true w e w' := by
  rw [hl]
  have HB := hid (Bx.start w (.cells #[.slice aS S.length kS, .slice aL S.length kL] 26))
  have y0 := box_cell HB.out.box 0
  have y1 := box_cell HB.out.box 1
  have hc := sgoodH_any aS aL kS kL S L _ ((hG.below HB.out.below).mono HB.out.below.size) ((hV.below HB.out.below).mono HB.out.below.size)
  rw [hl, hg] at hc
  have HC := hid hc
  have HFR := hid (fresh S L hl hg)
  obtain ⟨⟨_, h8⟩, hgs, _⟩ := (goodH_iff S L hl).1 hg
  have H6 : Hid (∀ k (h : k < S.length), S[k].bl.length ≤ 6 ∧ (L[k]'(by omega)).length = S[k].bl.length) := fun k h => by
    obtain ⟨a, _, _, _, b⟩ := (goodS_iff _ _).1 (hgs k h)
    exact ⟨a, b⟩
  have HLEN := hid (flatB_len S L hl (fun k h => (H6.out k h).1))
  have HG := hid hG
  have HV := hid hV
  clear hG hV hg hgs hc
  generalize hW : w.alloc (.cells #[.slice aS S.length kS, .slice aL S.length kL] 26) = W at *
  go_enter Try.func29, Try.ntmps29
  go_wp2_with fail
  refine HC.out.mono ?_
  rintro e w2 ⟨rfl, hb2⟩
  have HB2 := hid (HB.out.on hb2)
  clear hb2 hW y0 y1 HC HB
  have y0 := box_cell HB2.out.box 0
  go_wp2_with fail
  go_loopw [4, 15] (fun o i wr => ∃ (k : Nat) (o1 : Value), k ≤ S.length ∧ i = .int .i64 k ∧ o = o1 ∧ AL w.heap.size o1 (sortN (flatB (S.take k) (L.take k))) wr ∧ Bx w (.cells #[.slice aS S.length kS, .slice aL S.length kL] 26) wr) (fun _ i _ => S.length - (intOf i).toNat)
  case atStart => exact ⟨0, _, Nat.zero_le _, rfl, rfl, by rw [List.take_zero, flatB_nil]; exact AL.nil _ _, HB2.out⟩
  case round =>
    clear HB2 y0
    obtain ⟨k, _, hk, rfl, rfl, hown, hbx⟩ := hrel
    have HO := hid hown
    have HBX := hid hbx
    clear hown
    by_cases hlt : k < S.length
    · obtain ⟨b, off, rfl, hb, hcl⟩ := HG.out (by omega)
      obtain ⟨p, c, c0, c1, hI⟩ := hcl k hlt
      obtain ⟨b', off', rfl, hb', hcv⟩ := HV.out (by omega)
      obtain ⟨p', c', c2, hJ⟩ := hcv k (by omega)
      rw [← hbx.below.cell (p := ⟨b, off + k * 2, none⟩) hb] at c0
      rw [← hbx.below.cell (p := ⟨b, off + k * 2 + 1, none⟩) hb] at c1
      have HI := hid hI
      have HJ := hid hJ
      have HC2 := hid c2
      have hb6 := (H6.out k hlt).1
      have hv6 := (H6.out k hlt).2
      have hkL : k < L.length := by omega
      have HF : Hid (∀ i (hi : i < S[k].bl.length) (hi' : i < L[k].length), L[k][i] = true → S[k].bl[i] ∉ sortN (flatB (S.take k) (L.take k) ++ livB (S[k].bl.take i) (L[k].take i))) := fun i hi hi' ht => HFR.out k i hlt hkL hi hi' ht
      have HST := hid (flatB_take S L k hlt (by omega))
      have hlen := HLEN.out k hk
      clear hcl hcv hI hJ c2 hbx
      generalize flatB (S.take k) (L.take k) = F at *
      generalize L[k]'(by omega) = v at *
      generalize S[k] = s at *
      obtain ⟨l, age⟩ := s
      simp only at c0 c1 hb6 hv6 HI HF HST
      have HB3 := hid (HBX.out.on (boxB wr (.cells #[.slice p l.length c, .int .i64 age] 40)))
      have HO3 := hid (HO.out.below (boxB wr (.cells #[.slice p l.length c, .int .i64 age] 40)))
      clear HO HBX
      go_wp2_with fail
      generalize wr.alloc (.cells #[.slice p l.length c, .int .i64 age] 40) = wq at *
      go_loopw [4, 23] (fun o i wr => ∃ (n : Nat) (o1 : Value), n ≤ l.length ∧ i = .int .i64 n ∧ o = o1 ∧ AL w.heap.size o1 (sortN (F ++ livB (l.take n) (v.take n))) wr ∧ Bx w (.cells #[.slice (some ⟨b, off, none⟩) S.length kS, .slice (some ⟨b', off', none⟩) S.length kL] 26) wr) (fun _ i _ => l.length - (intOf i).toNat)
      case atStart => exact ⟨0, _, Nat.zero_le _, rfl, rfl, by rw [List.take_zero, livB_nil, List.append_nil]; exact HO3.out, HB3.out⟩
      case round =>
        clear HO3 HB3 c0 c1
        obtain ⟨n, _, hn, rfl, rfl, hown, hbx⟩ := hrel
        have HO := hid hown
        have HBX := hid hbx
        clear hown
        by_cases hln : n < l.length
        · obtain ⟨bp, op, rfl, hbp, hcp⟩ := HI.out.cell (by omega)
          obtain ⟨bq, oq, rfl, hbq, hcq⟩ := HJ.out.cell (by omega)
          have x0 := (hbx.below.cell (p := ⟨bp, op + n, none⟩) hbp).trans (hcp n hln)
          have x1 := (hbx.below.cell (p := ⟨bq, oq + n, none⟩) hbq).trans (hcq n (by omega))
          have y1 := box_cell hbx.box 1
          have c2 := (hbx.below.cell (p := ⟨b', off' + k, none⟩) hb').trans HC2.out
          have hstep := livB_step l v n hln (by omega)
          have hfr := HF.out n hln (by omega)
          have hle : (sortN (F ++ livB (l.take n) (v.take n))).length ≤ 9000 := by
            rw [sortN_len, List.length_append]
            have := livB_len (l.take n) (v.take n)
            rw [List.length_take] at this
            omega
          rw [hv6] at c2
          clear hcp hcq hbx
          generalize l[n] = x at *
          generalize v[n]'(by omega) = t at *
          cases t
          · have HN : Hid (livB (l.take (n + 1)) (v.take (n + 1)) = livB (l.take n) (v.take n)) := by
              show _ = _
              rw [hstep]; simp
            clear hstep hfr hle
            go_wp2_with fail
            go_roundw
            case rel => exact ⟨n + 1, _, by omega, by go_num, rfl, by rw [HN.out]; exact HO.out, HBX.out⟩
            case measure => simp [intOf]; omega
          · have HN : Hid (sortN (F ++ livB (l.take (n + 1)) (v.take (n + 1))) = insN x (sortN (F ++ livB (l.take n) (v.take n)))) := by
              show _ = _
              rw [hstep, if_pos rfl, ← List.append_assoc, sortN_snoc]
            have HP := hid (put_any _ _ _ x wr hle HO.out (hfr rfl))
            clear hstep hfr hle HO
            go_wp2_with fail
            refine HP.out.mono ?_
            rintro e w5 ⟨v5, rfl, o5, g5⟩
            have HO5 := hid (o5.mono (HBX.out.below.size))
            have HB5 := hid (HBX.out.on g5)
            clear o5 g5 HP HBX x0 x1 y1 c2
            go_wp2_with fail
            go_roundw
            case rel => exact ⟨n + 1, _, by omega, by go_num, rfl, by rw [HN.out]; exact HO5.out, HB5.out⟩
            case measure => simp [intOf]; omega
        · have HT : Hid (flatB (S.take (k + 1)) (L.take (k + 1)) = F ++ livB (l.take n) (v.take n)) := by
            show _ = _
            rw [HST.out, List.take_of_length_le (by omega), List.take_of_length_le (by omega)]
          clear hbx
          go_wp2_with fail
          go_roundw
          case rel => exact ⟨k + 1, _, by omega, by go_num, rfl, by rw [HT.out]; exact HO.out, HBX.out⟩
          case measure => simp [intOf]; omega
    · have HT : Hid (flatB (S.take k) (L.take k) = flatB S L) := by
        show _ = _
        rw [List.take_of_length_le (by omega), List.take_of_length_le (by omega)]
      rw [HT.out] at HO
      clear hbx
      go_wp2_with fail
      go_ret2
      exact LOut.yes HO.out HBX.out.below
end Go.Proofs.Ytohkhcjdjjlfbaa.Q
