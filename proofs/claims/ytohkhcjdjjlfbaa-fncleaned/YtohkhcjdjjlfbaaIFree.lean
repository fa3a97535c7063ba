/- Walks of the program's LiveIn and FreeSegs. -/
import Derived.Test.YtohkhcjdjjlfbaaILb
import Derived.Test.YtohkhcjdjjlfbaaHFree
namespace Go.Proofs.Ytohkhcjdjjlfbaa
set_option maxRecDepth 100000
open Go.ChangeShapes Go.WideShapes Go.ChangeAt Go.RowKit G00541
set_option maxHeartbeats 2000000 in
theorem iLiveIn_no (aS aL : Option Addr) (kS kL : Nat) (S : List Sg) (L : List (List Bool)) (k : Int) (w : World) (hG : Gs w.heap.size aS S w) (hV : Vs w.heap.size aL L w) (hno : ¬ (goodH S L = true ∧ 0 ≤ k ∧ k < S.length)) :
    Calls Try.prog 8 #[.agg #[.slice aS S.length kS, .slice aL L.length kL], .int .i64 k] w fun e w' => e = .returned (.tuple #[.int .i64 0, .bool false]) ∧ Below w.heap.size w w' := by
  have HB := hid (Bx.start w (.cells #[.slice aS S.length kS, .slice aL L.length kL] 26))
  have y0 := box_cell HB.out.box 0
  have y1 := box_cell HB.out.box 1
  have HC := hid (igoodH_any aS aL kS kL S L _ ((hG.below HB.out.below).mono HB.out.below.size) ((hV.below HB.out.below).mono HB.out.below.size))
  have HD := hid (fun v => hasSeg_any aS aL kS kL S.length L.length k v)
  have HN : Hid (goodH S L = true → decide (0 ≤ k ∧ k < S.length) = false) := fun h => decide_eq_false (fun h2 => hno ⟨h, h2⟩)
  clear hG hV hno
  generalize hW : w.alloc (.cells #[.slice aS S.length kS, .slice aL L.length kL] 26) = W at *
  generalize goodH S L = g at *
  cases g
  · go_enter Try.func8, Try.ntmps8
    go_wp2_with fail
    refine HC.out.mono ?_
    rintro e w2 ⟨rfl, hb2⟩
    have HB2 := hid (HB.out.on hb2)
    clear hb2 hW y0 y1 HC HB
    go_wp2_with fail
    go_ret2
    exact ⟨rfl, HB2.out.below⟩
  · rw [HN.out rfl] at HD
    go_enter Try.func8, Try.ntmps8
    go_wp2_with fail
    refine HC.out.mono ?_
    rintro e w2 ⟨rfl, hb2⟩
    have HB2 := hid (HB.out.on hb2)
    clear hb2 hW y0 y1 HC HB
    have y0 := box_cell HB2.out.box 0
    have y1 := box_cell HB2.out.box 1
    go_wp2_with fail
    refine (HD.out _).mono ?_
    rintro e w3 ⟨rfl, hb3⟩
    have HB3 := hid (HB2.out.on hb3)
    clear hb3 y0 y1 HD HB2
    go_wp2_with fail
    go_ret2
    exact ⟨rfl, HB3.out.below⟩
set_option maxHeartbeats 2000000 in
theorem iLiveIn_yes (aS aL : Option Addr) (kS kL : Nat) (S : List Sg) (L : List (List Bool)) (k : Nat) (w : World) (hG : Gs w.heap.size aS S w) (hV : Vs w.heap.size aL L w) (hg : goodH S L = true) (hk : k < S.length) (hl : L.length = S.length) :
    Calls Try.prog 8 #[.agg #[.slice aS S.length kS, .slice aL L.length kL], .int .i64 k] w fun e w' => e = .returned (.tuple #[.int .i64 (((L[k]'(by omega)).countP id : Nat) : Int), .bool true]) ∧ Below w.heap.size w w' := by
  have HB := hid (Bx.start w (.cells #[.slice aS S.length kS, .slice aL L.length kL] 26))
  have y0 := box_cell HB.out.box 0
  have y1 := box_cell HB.out.box 1
  have HC := hid (igoodH_any aS aL kS kL S L _ ((hG.below HB.out.below).mono HB.out.below.size) ((hV.below HB.out.below).mono HB.out.below.size))
  have HD := hid (fun v => hasSeg_any aS aL kS kL S.length L.length k v)
  have e1 : decide (0 ≤ (k : Int) ∧ (k : Int) < S.length) = true := decide_eq_true ⟨by omega, by omega⟩
  rw [e1] at HD
  obtain ⟨hn, hall, _⟩ := (goodH_iff S L hl).1 hg
  obtain ⟨g1, _, _, _, g5⟩ := (goodS_iff _ _).1 (hall k hk)
  have HLB : Hid (∀ v, Below w.heap.size w v → Calls Try.prog 32 #[.agg #[.slice aS S.length kS, .slice aL L.length kL], .int .i64 k] v fun e w' => ∃ b c, e = .returned (.slice b (livB S[k].bl (L[k]'(by omega))).length c) ∧ OwnI v.heap.size w'.heap.size b (livB S[k].bl (L[k]'(by omega))) w' ∧ Below v.heap.size v w') := fun v hv => liveBlocks_any aS aL kS kL S L k v hk hn.2 hl g1 g5 ((hG.below hv).mono hv.size) ((hV.below hv).mono hv.size)
  have HQ := hid (livB_cnt _ _ g5)
  rw [hg] at HC
  clear hG hV hg e1 hall g1 g5
  generalize livB S[k].bl (L[k]'(by omega)) = D at *
  generalize (L[k]'(by omega)).countP id = q at *
  have HQ2 : Hid (D.length = q) := HQ.out
  clear HQ
  rw [HQ2.out] at HLB
  clear hl
  generalize L.length = nl at *
  generalize hW : w.alloc (.cells #[.slice aS S.length kS, .slice aL nl kL] 26) = W at *
  go_enter Try.func8, Try.ntmps8
  go_wp2_with fail
  refine HC.out.mono ?_
  rintro e w2 ⟨rfl, hb2⟩
  have HB2 := hid (HB.out.on hb2)
  clear hb2 hW y0 y1 HC HB
  have y0 := box_cell HB2.out.box 0
  have y1 := box_cell HB2.out.box 1
  go_wp2_with fail
  refine (HD.out _).mono ?_
  rintro e w3 ⟨rfl, hb3⟩
  have HB3 := hid (HB2.out.on hb3)
  clear hb3 y0 y1 HD HB2
  have y0 := box_cell HB3.out.box 0
  have y1 := box_cell HB3.out.box 1
  go_wp2_with fail
  refine (HLB.out _ HB3.out.below).mono ?_
  rintro e w4 ⟨b4, c4, rfl, -, hb4⟩
  have HB4 := hid (HB3.out.on hb4).below
  clear hb4 y0 y1 HLB HB3
  go_wp2_with fail
  go_ret2
  exact ⟨rfl, HB4.out⟩
set_option maxHeartbeats 1000000 in
theorem iFree_any (aS aL : Option Addr) (kS kL : Nat) (S : List Sg) (L : List (List Bool)) (w : World) (hm : S.length ≤ 1048576) (hG : Gs w.heap.size aS S w) (hV : Vs w.heap.size aL L w) :
    Calls Try.prog 19 #[.agg #[.slice aS S.length kS, .slice aL L.length kL]] w fun e w' => e = .returned (.tuple #[.int .i64 (if goodH S L then (freeN S : Int) else 0), .bool (goodH S L)]) ∧ Below w.heap.size w w' := by
  have HB := hid (Bx.start w (.cells #[.slice aS S.length kS, .slice aL L.length kL] 26))
  have y0 := box_cell HB.out.box 0
  have y1 := box_cell HB.out.box 1
  have HC := hid (igoodH_any aS aL kS kL S L _ ((hG.below HB.out.below).mono HB.out.below.size) ((hV.below HB.out.below).mono HB.out.below.size))
  have HG := hid hG
  clear hG hV
  generalize hW : w.alloc (.cells #[.slice aS S.length kS, .slice aL L.length kL] 26) = W at *
  generalize goodH S L = g at *
  cases g
  · go_enter Try.func19, Try.ntmps19
    go_wp2_with fail
    refine HC.out.mono ?_
    rintro e w2 ⟨rfl, hb2⟩
    have HB2 := hid (HB.out.on hb2).below
    clear hb2 hW y0 y1 HC HB
    go_wp2_with fail
    go_ret2
    exact ⟨rfl, HB2.out⟩
  · go_enter Try.func19, Try.ntmps19
    go_wp2_with fail
    refine HC.out.mono ?_
    rintro e w2 ⟨rfl, hb2⟩
    have HB2 := hid (HB.out.on hb2)
    clear hb2 hW y0 y1 HC HB
    have y0 := box_cell HB2.out.box 0
    go_wp2_with fail
    go_loopw [4, 13] (fun u i wr => ∃ k : Nat, k ≤ S.length ∧ i = .int .i64 k ∧ u = .int .i64 (freeN (S.take k) : Int) ∧ Below w.heap.size w wr) (fun _ i _ => S.length - (intOf i).toNat)
    case atStart => exact ⟨0, Nat.zero_le _, rfl, rfl, HB2.out.below⟩
    case round =>
      clear HB2 y0
      obtain ⟨k, hk, rfl, rfl, hbel⟩ := hrel
      have HBEL := hid hbel
      by_cases hlt : k < S.length
      · obtain ⟨b, off, rfl, hb, hcl⟩ := HG.out (by omega)
        obtain ⟨p, c, c0, c1, -⟩ := hcl k hlt
        rw [← hbel.cell (p := ⟨b, off + k * 2, none⟩) hb] at c0
        rw [← hbel.cell (p := ⟨b, off + k * 2 + 1, none⟩) hb] at c1
        have HST := hid (free_step S k hlt)
        have hq1 : freeN (S.take k) ≤ k := Nat.le_trans List.countP_le_length (by simp; omega)
        have hszr := hbel.size
        clear hcl hbel
        generalize S[k] = s at *
        generalize freeN (S.take k) = q at *
        obtain ⟨l, age⟩ := s
        simp only at c0 c1
        have HB3 := hid (HBEL.out.alloc hszr (.cells #[.slice p l.length c, .int .i64 age] 40))
        by_cases q0 : l.length = 0
        · have hd : ((l.length : Int) == 0) = true := beq_iff_eq.2 (by omega)
          have HN : Hid ((freeN (S.take (k + 1)) : Int) = q + 1) := by
            unfold Hid
            rw [HST.out, if_pos (by simpa using q0)]; rfl
          clear HST HBEL q0
          go_wp2_with fail
          go_roundw
          case rel => exact ⟨k + 1, by omega, by go_num, by rw [HN.out], HB3.out⟩
          case measure => simp [intOf]; omega
        · have hd : ((l.length : Int) == 0) = false := beq_eq_false_iff_ne.2 (by omega)
          have HN : Hid ((freeN (S.take (k + 1)) : Int) = q) := by
            unfold Hid
            rw [HST.out, if_neg (by simpa using q0)]; rfl
          clear HST HBEL q0
          go_wp2_with fail
          go_roundw
          case rel => exact ⟨k + 1, by omega, by go_num, by rw [HN.out], HB3.out⟩
          case measure => simp [intOf]; omega
      · have HT : Hid (freeN (S.take k) = freeN S) := by
          unfold Hid
          rw [List.take_of_length_le (by omega)]
        clear hbel
        go_wp2_with fail
        go_ret2
        exact ⟨ret_ib (by rw [HT.out]), HBEL.out⟩
end Go.Proofs.Ytohkhcjdjjlfbaa
