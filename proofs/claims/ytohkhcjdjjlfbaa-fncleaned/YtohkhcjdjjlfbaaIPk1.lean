/- Walk of the program's first closure of PickSeg. -/
import Derived.Test.YtohkhcjdjjlfbaaIPk0
import Derived.Deep.RegionHeld
namespace Go.Proofs.Ytohkhcjdjjlfbaa
set_option maxRecDepth 100000
open Go.ChangeShapes Go.WideShapes Go.ChangeAt Go.RowKit G00541
set_option maxHeartbeats 4000000 in
theorem pick1_any (aS aL : Option Addr) (kS kL X : Nat) (S : List Sg) (L : List (List Bool)) (i j : Nat) (w : World) (hl : L.length = S.length) (hg : goodH S L = true) (hi : i < S.length) (hj : j < S.length) (hG : Gs w.heap.size aS S w) (hV : Vs w.heap.size aL L w) (hX : X < w.heap.size)
    (x0 : w.cell? ⟨X, 0, none⟩ = some (.slice aS S.length kS)) (x1 : w.cell? ⟨X, 1, none⟩ = some (.slice aL L.length kL)) :
    Calls Try.prog 52 #[.int .i64 i, .int .i64 j, .pointer (some ⟨X, 0, none⟩)] w fun e w' => e = .returned (.bool (betH 1 (cntAt L i) (cntAt L j) (ageAt S i) (ageAt S j))) ∧ Below w.heap.size w w' := by
  have HLi : Hid (∀ v, Below w.heap.size w v → Calls Try.prog 32 #[.agg #[.slice aS S.length kS, .slice aL L.length kL], .int .i64 i] v fun e w' => ∃ b c, e = .returned (.slice b (cntAt L i) c) ∧ Below v.heap.size v w') := fun v hv => liveBlocks_n aS aL kS kL S L i v hl hg hi ((hG.below hv).mono hv.size) ((hV.below hv).mono hv.size)
  have HLj : Hid (∀ v, Below w.heap.size w v → Calls Try.prog 32 #[.agg #[.slice aS S.length kS, .slice aL L.length kL], .int .i64 j] v fun e w' => ∃ b c, e = .returned (.slice b (cntAt L j) c) ∧ Below v.heap.size v w') := fun v hv => liveBlocks_n aS aL kS kL S L j v hl hg hj ((hG.below hv).mono hv.size) ((hV.below hv).mono hv.size)
  have HX : Hid (∀ v, Below w.heap.size w v → v.cell? ⟨X, 0, none⟩ = some (.slice aS S.length kS) ∧ v.cell? ⟨X, 1, none⟩ = some (.slice aL L.length kL)) := fun v hv => ⟨(hv.cell (p := ⟨X, 0, none⟩) hX).trans x0, (hv.cell (p := ⟨X, 1, none⟩) hX).trans x1⟩
  have HE : Hid (betH 1 (cntAt L i) (cntAt L j) (ageAt S i) (ageAt S j) = decide ((cntAt L i : Int) < cntAt L j)) := by show betH 1 _ _ _ _ = _; unfold betH; rw [if_pos rfl]
  have hxi := cntAt_le S L hl hg i hi
  have hxj := cntAt_le S L hl hg j hj
  have HBd : Hid (Below w.heap.size w w.drew) := (Below.refl _ _).drew
  clear hG hV hg hl x0 x1
  rw [HE.out]
  clear HE
  generalize cntAt L i = xi at *
  generalize cntAt L j = xj at *
  generalize L.length = nl at *
  obtain ⟨x0, x1⟩ := HX.out _ HBd.out
  go_enter Try.func52, Try.ntmps52
  go_wp2_with fail
  go_region_held (fun v => v.cell? ⟨X, 0, none⟩ = some (.slice aS S.length kS) ∧ v.cell? ⟨X, 1, none⟩ = some (.slice aL nl kL)) (first | exact ⟨by assumption, by assumption⟩) (first | (go_at_call 32; refine (HLj.out _ HBi.out).mono ?_; rintro e wk ⟨bj, cj, rfl, gj⟩; have HBk : Hid (Below w.heap.size w wk) := HBi.out.trans (gj.mono HBi.out.size); obtain ⟨z0, z1⟩ := HX.out _ HBk.out) | (go_at_call 32; refine (HLi.out _ HBd.out).mono ?_; rintro e wi ⟨bi, ci, rfl, gi⟩; have HBi : Hid (Below w.heap.size w wi) := HBd.out.trans (gi.mono HBd.out.size); obtain ⟨y0, y1⟩ := HX.out _ HBi.out))
  all_goals
    clear x0 x1 y0 y1 z0 z1
    go_wp2
    go_ret
    exact ⟨ret_bd (by first | rfl | simp), HBk.out⟩
end Go.Proofs.Ytohkhcjdjjlfbaa
