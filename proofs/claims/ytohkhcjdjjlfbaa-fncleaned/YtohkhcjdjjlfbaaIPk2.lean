/- Walk of the program's second closure of PickSeg. -/
import Derived.Test.YtohkhcjdjjlfbaaIGain
import Derived.Deep.RegionHeld
namespace Go.Proofs.Ytohkhcjdjjlfbaa
set_option maxRecDepth 100000
open Go.ChangeShapes Go.WideShapes Go.ChangeAt Go.RowKit G00541
set_option maxHeartbeats 4000000 in
theorem pick2_any (aS aL : Option Addr) (kS kL X : Nat) (S : List Sg) (L : List (List Bool)) (i j : Nat) (w : World) (hl : L.length = S.length) (hg : goodH S L = true) (hi : i < S.length) (hj : j < S.length) (hG : Gs w.heap.size aS S w) (hV : Vs w.heap.size aL L w) (hX : X < w.heap.size)
    (x0 : w.cell? ⟨X, 0, none⟩ = some (.slice aS S.length kS)) (x1 : w.cell? ⟨X, 1, none⟩ = some (.slice aL L.length kL)) :
    Calls Try.prog 53 #[.int .i64 i, .int .i64 j, .pointer (some ⟨X, 0, none⟩)] w fun e w' => e = .returned (.bool (betH 2 (cntAt L i) (cntAt L j) (ageAt S i) (ageAt S j))) ∧ Below w.heap.size w w' := by
  have HC1 := hid (gainOf_any aS aL kS kL S L i w hl hg hi hG hV)
  have HC2 : Hid (∀ v, Below w.heap.size w v → Calls Try.prog 54 #[.agg #[.slice aS S.length kS, .slice aL L.length kL], .int .i64 j] v fun e w' => e = .returned (.tuple #[.int .i64 ((6 - (cntAt L j : Int)) * (ageAt S j + 1)), .int .i64 ((cntAt L j : Int) + 6)]) ∧ Below v.heap.size v w') := fun v hv => gainOf_any aS aL kS kL S L j v hl hg hj ((hG.below hv).mono hv.size) ((hV.below hv).mono hv.size)
  have HX : Hid (∀ v, Below w.heap.size w v → v.cell? ⟨X, 0, none⟩ = some (.slice aS S.length kS) ∧ v.cell? ⟨X, 1, none⟩ = some (.slice aL L.length kL)) := fun v hv => ⟨(hv.cell (p := ⟨X, 0, none⟩) hX).trans x0, (hv.cell (p := ⟨X, 1, none⟩) hX).trans x1⟩
  have HE : Hid (betH 2 (cntAt L i) (cntAt L j) (ageAt S i) (ageAt S j) = decide ((6 - (cntAt L j : Int)) * (ageAt S j + 1) * (cntAt L i + 6) < (6 - (cntAt L i : Int)) * (ageAt S i + 1) * (cntAt L j + 6))) := by show betH 2 _ _ _ _ = _; unfold betH; rw [if_neg (by decide)]
  have hxi := cntAt_le S L hl hg i hi
  have hxj := cntAt_le S L hl hg j hj
  have hai := ageAt_le S L hl hg i hi
  have haj := ageAt_le S L hl hg j hj
  clear hG hV hg hl
  rw [HE.out]
  clear HE
  generalize cntAt L i = x at *
  generalize cntAt L j = y at *
  generalize ageAt S i = ax at *
  generalize ageAt S j = ay at *
  generalize L.length = nl at *
  have m1 := mul_bd (a := 6 - (x : Int)) (b := ax + 1) (A := 6) (B := 1001) (by omega) (by omega) (by omega) (by omega)
  have m2 := mul_bd (a := 6 - (y : Int)) (b := ay + 1) (A := 6) (B := 1001) (by omega) (by omega) (by omega) (by omega)
  have m3 := mul_bd (a := (6 - (x : Int)) * (ax + 1)) (b := (y : Int) + 6) (A := 6006) (B := 12) (by omega) (by omega) (by omega) (by omega)
  have m4 := mul_bd (a := (6 - (y : Int)) * (ay + 1)) (b := (x : Int) + 6) (A := 6006) (B := 12) (by omega) (by omega) (by omega) (by omega)
  go_enter Try.func53, Try.ntmps53
  go_wp2_with fail
  refine HC1.out.mono ?_
  rintro e w2 ⟨rfl, b2⟩
  have HB2 := hid b2
  obtain ⟨y0, y1⟩ := HX.out _ b2
  clear b2 HC1 x0 x1
  go_wp2_with fail
  refine (HC2.out _ HB2.out).mono ?_
  rintro e w3 ⟨rfl, b3⟩
  have HB3 := hid (HB2.out.trans (b3.mono HB2.out.size))
  clear b3 y0 y1 HC2 HB2
  go_wp2_with fail
  go_ret
  exact ⟨rfl, HB3.out⟩
end Go.Proofs.Ytohkhcjdjjlfbaa
