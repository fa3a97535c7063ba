/- Walks of the model's and of the program's WhereIs. -/
import Derived.Test.YtohkhcjdjjlfbaaIAt
namespace Go.Proofs.Ytohkhcjdjjlfbaa
set_option maxRecDepth 100000
open Go.ChangeShapes Go.WideShapes Go.ChangeAt Go.RowKit G00541
theorem good_lens (S : List Sg) (L : List (List Bool)) (hl : L.length = S.length) (hg : goodH S L = true) : S.length ≤ 8 ∧ ∀ k (h : k < S.length), (L[k]'(by omega)).length = S[k].bl.length ∧ S[k].bl.length ≤ 1048576 := by
  obtain ⟨hn, hall, _⟩ := (goodH_iff S L hl).1 hg
  refine ⟨hn.2, fun k h => ?_⟩
  obtain ⟨g1, _, _, _, g5⟩ := (goodS_iff _ _).1 (hall k h)
  exact ⟨g5, by omega⟩
set_option maxHeartbeats 1000000 in
theorem sWhere_no (aS aL : Option Addr) (kS kL : Nat) (S : List Sg) (L : List (List Bool)) (x : Int) (w : World) (hg : goodH S L = false) (hG : Gs w.heap.size aS S w) (hV : Vs w.heap.size aL L w) :
    Calls Try.prog 17 #[.agg #[.slice aS S.length kS, .slice aL L.length kL], .int .i64 x] w fun e w' => e = whereOf none ∧ Below w.heap.size w w' := by
  have HB := hid (Bx.start w (.cells #[.slice aS S.length kS, .slice aL L.length kL] 26))
  have y0 := box_cell HB.out.box 0
  have y1 := box_cell HB.out.box 1
  have HC := hid (sgoodH_any aS aL kS kL S L _ ((hG.below HB.out.below).mono HB.out.below.size) ((hV.below HB.out.below).mono HB.out.below.size))
  rw [hg] at HC
  clear hG hV hg
  generalize hW : w.alloc (.cells #[.slice aS S.length kS, .slice aL L.length kL] 26) = W at *
  go_enter Try.func17, Try.ntmps17
  go_wp2_with fail
  refine HC.out.mono ?_
  rintro e w2 ⟨rfl, hb2⟩
  have HB2 := hid (HB.out.on hb2).below
  clear hb2 hW y0 y1 HC HB
  go_wp2_with fail
  go_ret3
  exact ⟨rfl, HB2.out⟩
set_option maxHeartbeats 1000000 in
theorem iWhere_no (aS aL : Option Addr) (kS kL : Nat) (S : List Sg) (L : List (List Bool)) (x : Int) (w : World) (hg : goodH S L = false) (hG : Gs w.heap.size aS S w) (hV : Vs w.heap.size aL L w) :
    Calls Try.prog 15 #[.agg #[.slice aS S.length kS, .slice aL L.length kL], .int .i64 x] w fun e w' => e = whereOf none ∧ Below w.heap.size w w' := by
  have HB := hid (Bx.start w (.cells #[.slice aS S.length kS, .slice aL L.length kL] 26))
  have y0 := box_cell HB.out.box 0
  have y1 := box_cell HB.out.box 1
  have HC := hid (igoodH_any aS aL kS kL S L _ ((hG.below HB.out.below).mono HB.out.below.size) ((hV.below HB.out.below).mono HB.out.below.size))
  rw [hg] at HC
  clear hG hV hg
  generalize hW : w.alloc (.cells #[.slice aS S.length kS, .slice aL L.length kL] 26) = W at *
  go_enter Try.func15, Try.ntmps15
  go_wp2_with fail
  refine HC.out.mono ?_
  rintro e w2 ⟨rfl, hb2⟩
  have HB2 := hid (HB.out.on hb2).below
  clear hb2 hW y0 y1 HC HB
  go_wp2_with fail
  go_ret3
  exact ⟨rfl, HB2.out⟩
set_option maxHeartbeats 1000000 in
theorem sWhere_yes (aS aL : Option Addr) (kS kL : Nat) (S : List Sg) (L : List (List Bool)) (x : Int) (w : World) (hl : L.length = S.length) (hg : goodH S L = true) (hG : Gs w.heap.size aS S w) (hV : Vs w.heap.size aL L w) :
    Calls Try.prog 17 #[.agg #[.slice aS S.length kS, .slice aL L.length kL], .int .i64 x] w fun e w' => e = whereOf (whereH S L x) ∧ Below w.heap.size w w' := by
  have HB := hid (Bx.start w (.cells #[.slice aS S.length kS, .slice aL L.length kL] 26))
  have y0 := box_cell HB.out.box 0
  have y1 := box_cell HB.out.box 1
  have HC := hid (sgoodH_any aS aL kS kL S L _ ((hG.below HB.out.below).mono HB.out.below.size) ((hV.below HB.out.below).mono HB.out.below.size))
  obtain ⟨hn, hv⟩ := good_lens S L hl hg
  have HF : Hid (∀ v, Bx w (.cells #[.slice aS S.length kS, .slice aL L.length kL] 26) v → Calls Try.prog 47 #[.agg #[.slice aS S.length kS, .slice aL L.length kL], .int .i64 x] v fun e w' => e = .returned (.tuple #[.int .i64 (wI (whereH S L x)).1, .int .i64 (wI (whereH S L x)).2]) ∧ Below v.heap.size v w') := fun v hb => l5Where_any aS aL kS kL S L x v (by omega) hl hv ((hG.below hb.below).mono hb.below.size) ((hV.below hb.below).mono hb.below.size)
  rw [hg] at HC
  clear hG hV hg hl hv
  obtain ⟨o, ho⟩ : ∃ o, whereH S L x = o := ⟨_, rfl⟩
  rw [ho] at HF ⊢
  clear ho
  generalize L.length = nl at *
  generalize hW : w.alloc (.cells #[.slice aS S.length kS, .slice aL nl kL] 26) = W at *
  go_enter Try.func17, Try.ntmps17
  go_wp2_with fail
  refine HC.out.mono ?_
  rintro e w2 ⟨rfl, hb2⟩
  have HB2 := hid (HB.out.on hb2)
  clear hb2 hW y0 y1 HC HB
  have y0 := box_cell HB2.out.box 0
  have y1 := box_cell HB2.out.box 1
  have HC2 := hid (HF.out _ HB2.out)
  clear HF
  cases o with
  | none =>
    simp only [wI] at HC2
    go_wp2_with fail
    refine HC2.out.mono ?_
    rintro e w3 ⟨rfl, hb3⟩
    have HB3 := hid (HB2.out.on hb3).below
    clear hb3 y0 y1 HB2 HC2
    go_wp2_with fail
    go_ret3
    exact ⟨rfl, HB3.out⟩
  | some t =>
    obtain ⟨k, i⟩ := t
    simp only [wI] at HC2
    have hd : decide ((k : Int) < 0) = false := decide_eq_false (by omega)
    go_wp2_with fail
    refine HC2.out.mono ?_
    rintro e w3 ⟨rfl, hb3⟩
    have HB3 := hid (HB2.out.on hb3).below
    clear hb3 y0 y1 HB2 HC2
    go_wp2_with fail
    go_ret3
    exact ⟨rfl, HB3.out⟩
set_option maxHeartbeats 1000000 in
theorem iWhere_yes (aS aL : Option Addr) (kS kL : Nat) (S : List Sg) (L : List (List Bool)) (x : Int) (w : World) (hl : L.length = S.length) (hg : goodH S L = true) (hG : Gs w.heap.size aS S w) (hV : Vs w.heap.size aL L w) :
    Calls Try.prog 15 #[.agg #[.slice aS S.length kS, .slice aL L.length kL], .int .i64 x] w fun e w' => e = whereOf (whereH S L x) ∧ Below w.heap.size w w' := by
  have HB := hid (Bx.start w (.cells #[.slice aS S.length kS, .slice aL L.length kL] 26))
  have y0 := box_cell HB.out.box 0
  have y1 := box_cell HB.out.box 1
  have HC := hid (igoodH_any aS aL kS kL S L _ ((hG.below HB.out.below).mono HB.out.below.size) ((hV.below HB.out.below).mono HB.out.below.size))
  obtain ⟨hn, hv⟩ := good_lens S L hl hg
  have HF : Hid (∀ v, Bx w (.cells #[.slice aS S.length kS, .slice aL L.length kL] 26) v → Calls Try.prog 46 #[.agg #[.slice aS S.length kS, .slice aL L.length kL], .int .i64 x] v fun e w' => e = whereOf (whereH S L x) ∧ Below v.heap.size v w') := fun v hb => liveAt_any aS aL kS kL S L x v (by omega) hl hv ((hG.below hb.below).mono hb.below.size) ((hV.below hb.below).mono hb.below.size)
  rw [hg] at HC
  clear hG hV hg hl hv
  obtain ⟨o, ho⟩ : ∃ o, whereH S L x = o := ⟨_, rfl⟩
  rw [ho] at HF ⊢
  clear ho
  generalize L.length = nl at *
  generalize hW : w.alloc (.cells #[.slice aS S.length kS, .slice aL nl kL] 26) = W at *
  go_enter Try.func15, Try.ntmps15
  go_wp2_with fail
  refine HC.out.mono ?_
  rintro e w2 ⟨rfl, hb2⟩
  have HB2 := hid (HB.out.on hb2)
  clear hb2 hW y0 y1 HC HB
  have y0 := box_cell HB2.out.box 0
  have y1 := box_cell HB2.out.box 1
  have HC2 := hid (HF.out _ HB2.out)
  clear HF
  cases o with
  | none =>
    go_wp2_with fail
    refine HC2.out.mono ?_
    rintro e w3 ⟨rfl, hb3⟩
    have HB3 := hid (HB2.out.on hb3).below
    clear hb3 y0 y1 HB2 HC2
    simp only [whereOf]
    go_wp2_with fail
    go_ret3
    exact ⟨rfl, HB3.out⟩
  | some t =>
    obtain ⟨k, i⟩ := t
    go_wp2_with fail
    refine HC2.out.mono ?_
    rintro e w3 ⟨rfl, hb3⟩
    have HB3 := hid (HB2.out.on hb3).below
    clear hb3 y0 y1 HB2 HC2
    simp only [whereOf]
    go_wp2_with fail
    go_ret3
    exact ⟨rfl, HB3.out⟩
end Go.Proofs.Ytohkhcjdjjlfbaa
