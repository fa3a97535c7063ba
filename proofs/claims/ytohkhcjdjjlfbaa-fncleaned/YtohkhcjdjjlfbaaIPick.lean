/- Walk of the program's PickSeg. -/
import Derived.Test.YtohkhcjdjjlfbaaIBest
namespace Go.Proofs.Ytohkhcjdjjlfbaa
set_option maxRecDepth 100000
open Go.ChangeShapes Go.WideShapes Go.ChangeAt Go.RowKit G00541
set_option maxHeartbeats 2000000 in
theorem iPick1_yes (aS aL : Option Addr) (kS kL : Nat) (S : List Sg) (L : List (List Bool)) (w : World) (hl : L.length = S.length) (hg : goodH S L = true) (hG : Gs w.heap.size aS S w) (hV : Vs w.heap.size aL L w) :
    Calls Try.prog 22 #[.agg #[.slice aS S.length kS, .slice aL L.length kL], .int .i64 1] w fun e w' => e = pickOf (bestH S L 1 S.length) ∧ Below w.heap.size w w' := by
  have hmf : ∀ (fn : Fn) (first cap : Array Value) (w : World), (Instr.makeFunc fn first cap).run Try.prog w = .ok (.func fn first cap) w := fun _ _ _ _ => rfl
  obtain ⟨hn, -, -⟩ := (goodH_iff S L hl).1 hg
  have HB := hid (Bx.start w (.cells #[.slice aS S.length kS, .slice aL L.length kL] 26))
  have y0 := box_cell HB.out.box 0
  have y1 := box_cell HB.out.box 1
  have HC := hid (igoodH_any aS aL kS kL S L _ ((hG.below HB.out.below).mono HB.out.below.size) ((hV.below HB.out.below).mono HB.out.below.size))
  rw [hg] at HC
  have HF : Hid (∀ v, Bx w (.cells #[.slice aS S.length kS, .slice aL L.length kL] 26) v → Calls Try.prog 51 #[.agg #[.slice aS S.length kS, .slice aL L.length kL], .func (.func 52) #[] #[.pointer (some ⟨w.heap.size, 0, none⟩)]] v fun e w' => e = pickOf (bestH S L 1 S.length) ∧ Below v.heap.size v w') := fun v hb => by
    refine bestFull1_any aS aL kS kL w.heap.size S L v hn.2 ((hG.below hb.below).mono hb.below.size) fun i j u hi hj hu => ?_
    have hb2 := hb.on hu
    exact pick1_any aS aL kS kL w.heap.size S L i j u hl hg hi hj ((hG.below hb2.below).mono hb2.below.size) ((hV.below hb2.below).mono hb2.below.size) hb2.lt (box_cell hb2.box 0) (box_cell hb2.box 1)
  clear hG hV hg hl
  obtain ⟨o, ho⟩ : ∃ o, bestH S L 1 S.length = o := ⟨_, rfl⟩
  rw [ho] at HF ⊢
  clear ho
  generalize L.length = nl at *
  generalize hW : w.alloc (.cells #[.slice aS S.length kS, .slice aL nl kL] 26) = W at *
  go_enter Try.func22, Try.ntmps22
  go_wp2_with fail
  refine HC.out.mono ?_
  rintro e w2 ⟨rfl, hb2⟩
  have HB2 := hid (HB.out.on hb2)
  clear hb2 hW y0 y1 HC HB
  have y0 := box_cell HB2.out.box 0
  have y1 := box_cell HB2.out.box 1
  have HC2 := hid (HF.out _ HB2.out)
  clear HF
  cases o with
  | none =>
    go_wp2_with fail
    refine HC2.out.mono ?_
    rintro e w3 ⟨rfl, hb3⟩
    have HB3 := hid (HB2.out.on hb3).below
    clear hb3 y0 y1 HB2 HC2
    simp only [pickOf]
    go_wp2_with fail
    go_ret2
    exact ⟨rfl, HB3.out⟩
  | some t =>
    go_wp2_with fail
    refine HC2.out.mono ?_
    rintro e w3 ⟨rfl, hb3⟩
    have HB3 := hid (HB2.out.on hb3).below
    clear hb3 y0 y1 HB2 HC2
    simp only [pickOf]
    go_wp2_with fail
    go_ret2
    exact ⟨rfl, HB3.out⟩
set_option maxHeartbeats 2000000 in
theorem iPick2_yes (aS aL : Option Addr) (kS kL : Nat) (S : List Sg) (L : List (List Bool)) (w : World) (hl : L.length = S.length) (hg : goodH S L = true) (hG : Gs w.heap.size aS S w) (hV : Vs w.heap.size aL L w) :
    Calls Try.prog 22 #[.agg #[.slice aS S.length kS, .slice aL L.length kL], .int .i64 2] w fun e w' => e = pickOf (bestH S L 2 S.length) ∧ Below w.heap.size w w' := by
  have hmf : ∀ (fn : Fn) (first cap : Array Value) (w : World), (Instr.makeFunc fn first cap).run Try.prog w = .ok (.func fn first cap) w := fun _ _ _ _ => rfl
  obtain ⟨hn, -, -⟩ := (goodH_iff S L hl).1 hg
  have HB := hid (Bx.start w (.cells #[.slice aS S.length kS, .slice aL L.length kL] 26))
  have y0 := box_cell HB.out.box 0
  have y1 := box_cell HB.out.box 1
  have HC := hid (igoodH_any aS aL kS kL S L _ ((hG.below HB.out.below).mono HB.out.below.size) ((hV.below HB.out.below).mono HB.out.below.size))
  rw [hg] at HC
  have HF : Hid (∀ v, Bx w (.cells #[.slice aS S.length kS, .slice aL L.length kL] 26) v → Calls Try.prog 51 #[.agg #[.slice aS S.length kS, .slice aL L.length kL], .func (.func 53) #[] #[.pointer (some ⟨w.heap.size, 0, none⟩)]] v fun e w' => e = pickOf (bestH S L 2 S.length) ∧ Below v.heap.size v w') := fun v hb => by
    refine bestFull2_any aS aL kS kL w.heap.size S L v hn.2 ((hG.below hb.below).mono hb.below.size) fun i j u hi hj hu => ?_
    have hb2 := hb.on hu
    exact pick2_any aS aL kS kL w.heap.size S L i j u hl hg hi hj ((hG.below hb2.below).mono hb2.below.size) ((hV.below hb2.below).mono hb2.below.size) hb2.lt (box_cell hb2.box 0) (box_cell hb2.box 1)
  clear hG hV hg hl
  obtain ⟨o, ho⟩ : ∃ o, bestH S L 2 S.length = o := ⟨_, rfl⟩
  rw [ho] at HF ⊢
  clear ho
  generalize L.length = nl at *
  generalize hW : w.alloc (.cells #[.slice aS S.length kS, .slice aL nl kL] 26) = W at *
  go_enter Try.func22, Try.ntmps22
  go_wp2_with fail
  refine HC.out.mono ?_
  rintro e w2 ⟨rfl, hb2⟩
  have HB2 := hid (HB.out.on hb2)
  clear hb2 hW y0 y1 HC HB
  have y0 := box_cell HB2.out.box 0
  have y1 := box_cell HB2.out.box 1
  have HC2 := hid (HF.out _ HB2.out)
  clear HF
  cases o with
  | none =>
    go_wp2_with fail
    refine HC2.out.mono ?_
    rintro e w3 ⟨rfl, hb3⟩
    have HB3 := hid (HB2.out.on hb3).below
    clear hb3 y0 y1 HB2 HC2
    simp only [pickOf]
    go_wp2_with fail
    go_ret2
    exact ⟨rfl, HB3.out⟩
  | some t =>
    go_wp2_with fail
    refine HC2.out.mono ?_
    rintro e w3 ⟨rfl, hb3⟩
    have HB3 := hid (HB2.out.on hb3).below
    clear hb3 y0 y1 HB2 HC2
    simp only [pickOf]
    go_wp2_with fail
    go_ret2
    exact ⟨rfl, HB3.out⟩
set_option maxHeartbeats 1000000 in
theorem iPick_no (aS aL : Option Addr) (kS kL : Nat) (S : List Sg) (L : List (List Bool)) (how : Int) (w : World) (hno : ¬ (goodH S L = true ∧ 1 ≤ how ∧ how ≤ 2)) (hG : Gs w.heap.size aS S w) (hV : Vs w.heap.size aL L w) :
    Calls Try.prog 22 #[.agg #[.slice aS S.length kS, .slice aL L.length kL], .int .i64 how] w fun e w' => e = .returned (.tuple #[.int .i64 0, .bool false]) ∧ Below w.heap.size w w' := by
  have HB := hid (Bx.start w (.cells #[.slice aS S.length kS, .slice aL L.length kL] 26))
  have y0 := box_cell HB.out.box 0
  have y1 := box_cell HB.out.box 1
  have HC := hid (igoodH_any aS aL kS kL S L _ ((hG.below HB.out.below).mono HB.out.below.size) ((hV.below HB.out.below).mono HB.out.below.size))
  clear hG hV
  generalize hW : w.alloc (.cells #[.slice aS S.length kS, .slice aL L.length kL] 26) = W at *
  rcases Bool.eq_false_or_eq_true (goodH S L) with hg | hg
  · have hh : how ≠ 1 ∧ how ≠ 2 := by
      rcases Classical.em (1 ≤ how ∧ how ≤ 2) with h | h
      · exact absurd ⟨hg, h⟩ hno
      · omega
    have hd1 : (how == 1) = false := beq_eq_false_iff_ne.2 hh.1
    have hd2 : (how == 2) = false := beq_eq_false_iff_ne.2 hh.2
    rw [hg] at HC
    clear hno hg hh
    go_enter Try.func22, Try.ntmps22
    go_wp2_with fail
    refine HC.out.mono ?_
    rintro e w2 ⟨rfl, hb2⟩
    have HB2 := hid (HB.out.on hb2).below
    clear hb2 hW y0 y1 HC HB
    go_wp2_with fail
    go_ret2
    exact ⟨rfl, HB2.out⟩
  · rw [hg] at HC
    clear hno hg
    go_enter Try.func22, Try.ntmps22
    go_wp2_with fail
    refine HC.out.mono ?_
    rintro e w2 ⟨rfl, hb2⟩
    have HB2 := hid (HB.out.on hb2).below
    clear hb2 hW y0 y1 HC HB
    go_wp2_with fail
    go_ret2
    exact ⟨rfl, HB2.out⟩
end Go.Proofs.Ytohkhcjdjjlfbaa
