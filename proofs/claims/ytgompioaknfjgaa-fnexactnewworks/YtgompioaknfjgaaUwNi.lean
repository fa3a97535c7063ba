/- The program's NewWorks. -/
import Derived.Test.YtgompioaknfjgaaUwNW
namespace Go.Proofs.Ytgompioaknfjgaa
set_option maxRecDepth 100000
open Go Go.ChangeShapes Go.WideShapes Go.ChangeAt Go.RowKit
set_option maxHeartbeats 2000000 in
theorem inewU_any (w : World) : Calls Try.prog 10 #[] w fun e w' => UwOne newX w e w' := by
  have hb : Below w.heap.size w (w.alloc (.cells #[.slice none 0 0, .slice none 0 0, .slice none 0 0, .int .i64 0, .slice none 0 0] 25)).drew := (boxB w (.cells #[.slice none 0 0, .slice none 0 0, .slice none 0 0, .int .i64 0, .slice none 0 0] 25)).drew
  have hz : (w.alloc (.cells #[.slice none 0 0, .slice none 0 0, .slice none 0 0, .int .i64 0, .slice none 0 0] 25)).drew.heap[w.heap.size]? = some (.cells #[.slice none 0 0, .slice none 0 0, .slice none 0 0, .int .i64 0, .slice none 0 0] 25) := heap_last _ _
  have hs : (w.alloc (.cells #[.slice none 0 0, .slice none 0 0, .slice none 0 0, .int .i64 0, .slice none 0 0] 25)).drew.heap.size = w.heap.size + 1 := heap_size _ _
  have HB := hid hb
  have HZ := hid hz
  have HS := hid hs
  clear hb hz hs
  go_enter Try.func10, Try.ntmps10
  go_upto_region 1 with fail
  generalize hV : (w.alloc (.cells #[.slice none 0 0, .slice none 0 0, .slice none 0 0, .int .i64 0, .slice none 0 0] 25)).drew = V at *
  have HO : Hid (∀ V5 : World, ∀ {cs : Array Value}, V5.heap[w.heap.size]? = some (.cells cs 25) → Below w.heap.size w V5 → V5.heap.size = w.heap.size + 1 → AL w.heap.size (.slice (some ⟨w.heap.size + 1, 0, none⟩) 6 6) [0, 0, 0, 0, 0, 0] ((V5.alloc (.cells #[.int .i64 0, .int .i64 0, .int .i64 0, .int .i64 0, .int .i64 0, .int .i64 0] 3)).alloc (.cells #[.int .i64 0, .int .i64 0, .int .i64 0, .int .i64 0, .int .i64 0, .int .i64 0] 3)) ∧ AL w.heap.size (.slice (some ⟨w.heap.size + 1 + 1, 0, none⟩) 6 6) [0, 0, 0, 0, 0, 0] ((V5.alloc (.cells #[.int .i64 0, .int .i64 0, .int .i64 0, .int .i64 0, .int .i64 0, .int .i64 0] 3)).alloc (.cells #[.int .i64 0, .int .i64 0, .int .i64 0, .int .i64 0, .int .i64 0, .int .i64 0] 3)) ∧ Below w.heap.size w ((V5.alloc (.cells #[.int .i64 0, .int .i64 0, .int .i64 0, .int .i64 0, .int .i64 0, .int .i64 0] 3)).alloc (.cells #[.int .i64 0, .int .i64 0, .int .i64 0, .int .i64 0, .int .i64 0, .int .i64 0] 3)) ∧ ((V5.alloc (.cells #[.int .i64 0, .int .i64 0, .int .i64 0, .int .i64 0, .int .i64 0, .int .i64 0] 3)).alloc (.cells #[.int .i64 0, .int .i64 0, .int .i64 0, .int .i64 0, .int .i64 0, .int .i64 0] 3)).heap[w.heap.size]? = some (.cells cs 25)) := fun V5 cs hf hb hz => by
    have b1 := boxB V5 (.cells #[.int .i64 0, .int .i64 0, .int .i64 0, .int .i64 0, .int .i64 0, .int .i64 0] 3)
    have b2 := boxB (V5.alloc (.cells #[.int .i64 0, .int .i64 0, .int .i64 0, .int .i64 0, .int .i64 0, .int .i64 0] 3)) (.cells #[.int .i64 0, .int .i64 0, .int .i64 0, .int .i64 0, .int .i64 0, .int .i64 0] 3)
    have bb := b1.trans (b2.mono b1.size)
    have hs1 : (V5.alloc (.cells #[.int .i64 0, .int .i64 0, .int .i64 0, .int .i64 0, .int .i64 0, .int .i64 0] 3)).heap.size = w.heap.size + 1 + 1 := by rw [heap_size, hz]
    have h1 := (al_six V5).below b2
    have h2 := al_six (V5.alloc (.cells #[.int .i64 0, .int .i64 0, .int .i64 0, .int .i64 0, .int .i64 0, .int .i64 0] 3))
    rw [hz] at h1
    rw [hs1] at h2
    exact ⟨h1.mono (by omega), h2.mono (by omega), hb.trans (bb.mono hb.size), (bb.block _ (kbox hf)).trans hf⟩
  obtain ⟨⟨a0, a1, a2, a3, a4⟩, f0, f1, f2, f3, f4⟩ := Uwbox HZ.out
  have hsV := HS.out
  have hmk := make_six
  go_region
  · have hf := Uwfill HZ.out (.slice (some ⟨w.heap.size + 1, 0, none⟩) 6 6) (.slice (some ⟨w.heap.size + 1 + 1, 0, none⟩) 6 6) (.slice none 0 0) (.int .i64 0) (.slice none 0 0)
    have hb5 := Uwfill_below HB.out (Nat.le_refl _) (.slice (some ⟨w.heap.size + 1, 0, none⟩) 6 6) (.slice (some ⟨w.heap.size + 1 + 1, 0, none⟩) 6 6) (.slice none 0 0) (.int .i64 0) (.slice none 0 0)
    have hz5 : (((((V.setCell ⟨w.heap.size, 0, none⟩ (.slice (some ⟨w.heap.size + 1, 0, none⟩) 6 6)).setCell ⟨w.heap.size, 1, none⟩ (.slice (some ⟨w.heap.size + 1 + 1, 0, none⟩) 6 6)).setCell ⟨w.heap.size, 2, none⟩ (.slice none 0 0)).setCell ⟨w.heap.size, 3, none⟩ (.int .i64 0)).setCell ⟨w.heap.size, 4, none⟩ (.slice none 0 0)).heap.size = w.heap.size + 1 := by first | simpa using HS.out | exact HS.out
    generalize ((((V.setCell ⟨w.heap.size, 0, none⟩ (.slice (some ⟨w.heap.size + 1, 0, none⟩) 6 6)).setCell ⟨w.heap.size, 1, none⟩ (.slice (some ⟨w.heap.size + 1 + 1, 0, none⟩) 6 6)).setCell ⟨w.heap.size, 2, none⟩ (.slice none 0 0)).setCell ⟨w.heap.size, 3, none⟩ (.int .i64 0)).setCell ⟨w.heap.size, 4, none⟩ (.slice none 0 0) = V5 at *
    obtain ⟨g1, g2, g3, g4⟩ := HO.out V5 hf hb5 hz5
    obtain ⟨⟨q0, q1, q2, q3, q4⟩, -⟩ := Uwbox g4
    clear hf hb5 hz5 a0 a1 a2 a3 a4 f0 f1 f2 f3 f4
    go_wp2_with fail
    refine bodyPost_ret (v := .agg #[.slice (some ⟨w.heap.size + 1, 0, none⟩) 6 6, .slice (some ⟨w.heap.size + 1 + 1, 0, none⟩) 6 6, .slice none 0 0, .int .i64 0, .slice none 0 0]) (by simp [results, Try.results10, go_sem, q0, q1, q2, q3, q4]) rfl ?_
    exact new_one g1 g2 (by omega) g3
  · have hf := Uwfill HZ.out (.slice (some ⟨w.heap.size + 1 + 1, 0, none⟩) 6 6) (.slice (some ⟨w.heap.size + 1, 0, none⟩) 6 6) (.slice none 0 0) (.int .i64 0) (.slice none 0 0)
    have hb5 := Uwfill_below HB.out (Nat.le_refl _) (.slice (some ⟨w.heap.size + 1 + 1, 0, none⟩) 6 6) (.slice (some ⟨w.heap.size + 1, 0, none⟩) 6 6) (.slice none 0 0) (.int .i64 0) (.slice none 0 0)
    have hz5 : (((((V.setCell ⟨w.heap.size, 0, none⟩ (.slice (some ⟨w.heap.size + 1 + 1, 0, none⟩) 6 6)).setCell ⟨w.heap.size, 1, none⟩ (.slice (some ⟨w.heap.size + 1, 0, none⟩) 6 6)).setCell ⟨w.heap.size, 2, none⟩ (.slice none 0 0)).setCell ⟨w.heap.size, 3, none⟩ (.int .i64 0)).setCell ⟨w.heap.size, 4, none⟩ (.slice none 0 0)).heap.size = w.heap.size + 1 := by first | simpa using HS.out | exact HS.out
    generalize ((((V.setCell ⟨w.heap.size, 0, none⟩ (.slice (some ⟨w.heap.size + 1 + 1, 0, none⟩) 6 6)).setCell ⟨w.heap.size, 1, none⟩ (.slice (some ⟨w.heap.size + 1, 0, none⟩) 6 6)).setCell ⟨w.heap.size, 2, none⟩ (.slice none 0 0)).setCell ⟨w.heap.size, 3, none⟩ (.int .i64 0)).setCell ⟨w.heap.size, 4, none⟩ (.slice none 0 0) = V5 at *
    obtain ⟨g1, g2, g3, g4⟩ := HO.out V5 hf hb5 hz5
    obtain ⟨⟨q0, q1, q2, q3, q4⟩, -⟩ := Uwbox g4
    clear hf hb5 hz5 a0 a1 a2 a3 a4 f0 f1 f2 f3 f4
    go_wp2_with fail
    refine bodyPost_ret (v := .agg #[.slice (some ⟨w.heap.size + 1 + 1, 0, none⟩) 6 6, .slice (some ⟨w.heap.size + 1, 0, none⟩) 6 6, .slice none 0 0, .int .i64 0, .slice none 0 0]) (by simp [results, Try.results10, go_sem, q0, q1, q2, q3, q4]) rfl ?_
    exact new_one g2 g1 (by omega) g3
end Go.Proofs.Ytgompioaknfjgaa
