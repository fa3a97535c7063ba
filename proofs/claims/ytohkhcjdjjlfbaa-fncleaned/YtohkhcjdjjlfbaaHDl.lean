/- The draw of a heap and a segment's number. -/
import Derived.Test.YtohkhcjdjjlfbaaHDc
import Derived.Deep.RegionHeld
namespace Go.Proofs.Ytohkhcjdjjlfbaa
set_option maxRecDepth 100000
open Go Go.ChangeShapes Go.WideShapes Go.ChangeAt Go.RowKit G00541
set_option maxHeartbeats 2000000 in
theorem drawLive_any (len cap : Nat) (a : Option Addr) (w : World) (hK : Code w.heap.size len cap a w) :
    Calls Try.prog 30 #[.slice a len cap] w fun e w' => ∃ aS kS aL kL S L, ∃ x : Int, e = .returned (.tuple #[.agg #[.slice aS S.length kS, .slice aL L.length kL], .int .i64 x]) ∧ S.length ≤ 6 ∧ HR (w.heap.size + 2) (.slice aS S.length kS) (.slice aL L.length kL) S L w' ∧ Below w.heap.size w w' := by
  have HH := hid (heap_dh len cap a w hK)
  clear hK
  go_enter Try.func30, Try.ntmps30
  go_wp2_with fail
  refine HH.out.mono ?_
  rintro e w2 ⟨vS, vL, S, L, rfl, h2, h6, hd⟩
  obtain ⟨aS, kS, aL, kL, e1, e2, _, _⟩ := hd.hr.read
  subst e1; subst e2
  have hd3 : Dh 400 len cap a w (.slice aS S.length kS) (.slice aL L.length kL) S L (w2.alloc (.cells #[.slice aS S.length kS, .slice aL L.length kL] 26)) := hd.step (hd.cur.alloc _) ((But.refl _ w2).alloc _)
  have HZ : Hid ((w2.alloc (.cells #[.slice aS S.length kS, .slice aL L.length kL] 26)).heap[w2.heap.size]? = some (.cells #[.slice aS S.length kS, .slice aL L.length kL] 26)) := heap_last _ _
  have HD3 := hid hd3
  have hZ1 : w.heap.size + 1 < w2.heap.size := hd.cur.lt
  clear hd hd3 HH
  go_upto_region 3 with fail
  generalize w2.alloc (.cells #[.slice aS S.length kS, .slice aL L.length kL] 26) = w3 at *
  generalize w2.heap.size = Z at *
  have hZ3 := block_ltH HZ.out
  have y0 := box_cell HZ.out 0
  have y1 := box_cell HZ.out 1
  have HP := hid (pick_any ((S.length : Int) + 2) (w.heap.size + 1) 400 len cap a w3.drew (by omega) (by omega) (by omega) HD3.out.cur.drew (HD3.out.code.but ((But.refl (w.heap.size + 1) w3).drew) (Nat.le_refl _) (by omega)))
  have BU0 : But (w.heap.size + 1) w3 w3.drew := (But.refl (w.heap.size + 1) w3).drew
  have HSK : Hid (∀ v, But (w.heap.size + 1) w3 v → v.cell? ⟨Z, 0, none⟩ = some (.slice aS S.length kS) ∧ v.cell? ⟨Z, 1, none⟩ = some (.slice aL L.length kL)) := fun v g => by
    have h := (g.block Z hZ3 (by omega)).trans HZ.out
    exact ⟨box_cell h 0, box_cell h 1⟩
  have HSS : Hid (∀ v x y, But (w.heap.size + 1) w3 v → ((v.setCell ⟨w.heap.size, 0, none⟩ x).setCell ⟨w.heap.size, 1, none⟩ y).cell? ⟨Z, 0, none⟩ = some (.slice aS S.length kS) ∧ ((v.setCell ⟨w.heap.size, 0, none⟩ x).setCell ⟨w.heap.size, 1, none⟩ y).cell? ⟨Z, 1, none⟩ = some (.slice aL L.length kL)) := fun v x y g => by
    have h := (g.block Z hZ3 (by omega)).trans HZ.out
    have k1 := (keepB (v.setCell ⟨w.heap.size, 0, none⟩ x) w.heap.size 1 y Z (by omega)).trans ((keepB v w.heap.size 0 x Z (by omega)).trans h)
    exact ⟨box_cell k1 0, box_cell k1 1⟩
  obtain ⟨d0, d1⟩ := HSK.out _ BU0
  have hw2 : IntKind.i64.wrap ((S.length : Int) + 2) = (S.length : Int) + 2 := by rw [IntKind.wrap_i64]; omega
  go_region_held (fun v => v.cell? ⟨Z, 0, none⟩ = some (.slice aS S.length kS) ∧ v.cell? ⟨Z, 1, none⟩ = some (.slice aL L.length kL)) (first | exact HSK.out _ (by with_reducible assumption) | exact HSS.out _ _ _ (by with_reducible assumption)) (first | (go_at_call 50; refine HP.out.mono ?_; rintro e w5 ⟨x5, rfl, x50, x51, hC5, hB5⟩; have hB6 := BU0.trans hB5; have HD5 := hid (HD3.out.step hC5 hB6); have r0 := box_cell HD5.out.res 0; have r1 := box_cell HD5.out.res 1; have f0 := box_free HD5.out.res 0; have f1 := box_free HD5.out.res 1; have hw5 : IntKind.i64.wrap (x5 - 1) = x5 - 1 := (by rw [IntKind.wrap_i64]; omega); clear hC5 hB5))
  all_goals
    have hf := HD5.out.fin
    go_wp2_with fail
    refine bodyPost_ret (v := .tuple #[.agg #[.slice aS S.length kS, .slice aL L.length kL], .int .i64 (x5 - 1)]) (by simp [results, Try.results30, go_sem, r0, r1]) rfl ⟨aS, kS, aL, kL, S, L, x5 - 1, rfl, h6, hf.1, hf.2⟩
set_option maxHeartbeats 1000000 in
theorem drawClean_any (len cap : Nat) (a : Option Addr) (w : World) (hK : Code w.heap.size len cap a w) :
    Calls Try.prog 5 #[.slice a len cap] w fun e w' => ∃ aS kS aL kL S L, ∃ x : Int, e = .returned (.tuple #[.agg #[.slice aS S.length kS, .slice aL L.length kL], .int .i64 x]) ∧ S.length ≤ 6 ∧ HG aS aL S L w' ∧ Below w.heap.size w w' := by
  have k1 : Code (oneH w).heap.size len cap a (oneH w) := (hK.start _).mono (by rw [oneH_size]; omega)
  have HH := hid (drawLive_any len cap a (oneH w) k1)
  clear hK k1
  go_enter Try.func5, Try.ntmps5
  go_wp2_with fail
  refine HH.out.mono ?_
  rintro e w2 ⟨aS, kS, aL, kL, S, L, x, rfl, h6, hr, hb⟩
  have hs := oneH_size w
  have hres : w2.heap[w.heap.size]? = some (.cells #[.slice none 0 0, .slice none 0 0] 26) := (hb.block _ (by omega)).trans (heap_last w _)
  have r0 := box_cell hres 0
  have r1 := box_cell hres 1
  have f0 := box_free hres 0
  have f1 := box_free hres 1
  have HR2 := hid ((hr.box hres 0 (.slice aS S.length kS)).box (box_set hres 0 (.slice aS S.length kS)) 1 (.slice aL L.length kL)).hg
  have hb0 : Below w.heap.size w w2 := ((Below.refl _ w).alloc (Nat.le_refl _) _).trans (hb.mono (by omega))
  have HBB := hid (setB (setB hb0 w.heap.size 0 (Nat.le_refl _) (.slice aS S.length kS)) w.heap.size 1 (Nat.le_refl _) (.slice aL L.length kL))
  clear hr hb hb0 hres HH hs
  go_wp2_with fail
  refine bodyPost_ret (v := .tuple #[.agg #[.slice aS S.length kS, .slice aL L.length kL], .int .i64 x]) (by simp [results, Try.results5, go_sem, r0, r1]) rfl ⟨aS, kS, aL, kL, S, L, x, rfl, h6, HR2.out, HBB.out⟩
end Go.Proofs.Ytohkhcjdjjlfbaa
