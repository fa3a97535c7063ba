/- Marks laid and held over volumes; both sides' NewVolume. -/
import Derived.Test.YtlbhfgcpflhccaaVTo
import Derived.Test.YtlbhfgcpflhccaaMarkR
import Derived.Test.YtlbhfgcpflhccaaFoldI
namespace Go.Proofs.Ytlbhfgcpflhccaa
set_option maxRecDepth 100000
open Go.ChangeShapes Go.WideShapes Go.ChangeAt Go.RowKit G00541
theorem Out.wide {lo hi lo' hi' : Nat} {w w' : World} (h : Out lo hi w w') (h1 : lo' ≤ lo) (h2 : hi ≤ hi') : Out lo' hi' w w' := ⟨h.os, h.tape, h.output, h.size, fun k hk hb => h.block k hk (by omega)⟩
theorem OwnV.out {lo hi l2 h2 : Nat} {aB : Option Addr} {B : List ByteArray} {aL : Option Addr} {L : List Rc} {w w' : World} (h : OwnV lo hi aB B aL L w) (g : Out l2 h2 w w') (hd : hi ≤ l2 ∨ h2 ≤ lo) : OwnV lo hi aB B aL L w' := by
  obtain ⟨mid, h1, h2', h3, h4⟩ := h
  exact ⟨mid, h1, h2', h3.out g (by omega), h4.out g (by omega)⟩
/-- a volume with nothing in it -/
def NewOut (w : World) (e : Ending) (w' : World) : Prop := ∃ b c, e = .returned (.agg #[.slice b 16 c, .int .i64 0, .slice none 0 0, .int .i64 0]) ∧ OwnV w.heap.size w'.heap.size b blankT none [] w' ∧ Below w.heap.size w w'
theorem new_own {w w' : World} {R : Nat} (hR : w.heap.size ≤ R) (hrow : SRow R blankT w') : OwnV w.heap.size w'.heap.size (some ⟨R, 0, none⟩) blankT none [] w' :=
  ⟨w'.heap.size, by have := hrow.lt; omega, Nat.le_refl _, Or.inr ⟨R, hR, hrow.lt, rfl, hrow⟩, Or.inl rfl⟩
set_option maxHeartbeats 1000000 in
theorem snew_any (w : World) : Calls Try.prog 29 #[] w fun e w' => NewOut w e w' := by
  have HB := hid (boxB w (.cells #[.slice none 0 0, .int .i64 0, .slice none 0 0, .int .i64 0] 28))
  have hbx : (w.alloc (.cells #[.slice none 0 0, .int .i64 0, .slice none 0 0, .int .i64 0] 28)).heap[w.heap.size]? = some (.cells #[.slice none 0 0, .int .i64 0, .slice none 0 0, .int .i64 0] 28) := heap_last _ _
  have hsz : (w.alloc (.cells #[.slice none 0 0, .int .i64 0, .slice none 0 0, .int .i64 0] 28)).heap.size = w.heap.size + 1 := by simp
  have HC := hid (l3blank_any (w.alloc (.cells #[.slice none 0 0, .int .i64 0, .slice none 0 0, .int .i64 0] 28)))
  go_enter Try.func29, Try.ntmps29
  go_wp2_with fail
  generalize w.alloc (.cells #[.slice none 0 0, .int .i64 0, .slice none 0 0, .int .i64 0] 28) = W at *
  refine HC.out.mono ?_
  rintro e w2 ⟨R, c, hR0, rfl, hrow, b2⟩
  have hbx2 := (b2.block w.heap.size (by omega)).trans hbx
  have HB2 : Hid (Below w.heap.size w w2) := HB.out.trans (b2.mono HB.out.size)
  have HROW := hid hrow
  have hR : w.heap.size < R := by omega
  have c0 := box_cell hbx2 0
  have f0 := box_free hbx2 0
  have c1 := box_cell hbx2 1
  have f1 := box_free hbx2 1
  have c2 := box_cell hbx2 2
  have f2 := box_free hbx2 2
  have c3 := box_cell hbx2 3
  have f3 := box_free hbx2 3
  have hbx3 := box_set (box_set (box_set (box_set hbx2 0 (.slice (some ⟨R, 0, none⟩) 16 c)) 1 (.int .i64 0)) 2 (.slice none 0 0)) 3 (.int .i64 0)
  have HOW : Hid (SRow R blankT ((((w2.setCell ⟨w.heap.size, 0, none⟩ (.slice (some ⟨R, 0, none⟩) 16 c)).setCell ⟨w.heap.size, 1, none⟩ (.int .i64 0)).setCell ⟨w.heap.size, 2, none⟩ (.slice none 0 0)).setCell ⟨w.heap.size, 3, none⟩ (.int .i64 0))) := by
    refine HROW.out.same (by simp [World.setCell]) ?_
    rw [keepB _ _ _ _ _ (by omega), keepB _ _ _ _ _ (by omega), keepB _ _ _ _ _ (by omega), keepB _ _ _ _ _ (by omega)]
  have HB3 := hid (setB (setB (setB (setB HB2.out w.heap.size 0 (Nat.le_refl _) (.slice (some ⟨R, 0, none⟩) 16 c)) w.heap.size 1 (Nat.le_refl _) (.int .i64 0)) w.heap.size 2 (Nat.le_refl _) (.slice none 0 0)) w.heap.size 3 (Nat.le_refl _) (.int .i64 0))
  have e0 := box_cell hbx3 0
  have e1 := box_cell hbx3 1
  have e2 := box_cell hbx3 2
  have e3 := box_cell hbx3 3
  clear hbx hbx2 hbx3 b2 hrow HC
  simp at c0 c1 c2 c3
  simp at e0 e1 e2 e3
  go_wp2_with fail
  generalize (((w2.setCell ⟨w.heap.size, 0, none⟩ (.slice (some ⟨R, 0, none⟩) 16 c)).setCell ⟨w.heap.size, 1, none⟩ (.int .i64 0)).setCell ⟨w.heap.size, 2, none⟩ (.slice none 0 0)).setCell ⟨w.heap.size, 3, none⟩ (.int .i64 0) = X at *
  refine bodyPost_ret (v := .agg #[.slice (some ⟨R, 0, none⟩) 16 c, .int .i64 0, .slice none 0 0, .int .i64 0]) (by simp [results, Try.results29, go_sem, e0, e1, e2, e3]) rfl ?_
  exact ⟨_, _, rfl, new_own (by omega) HOW.out, HB3.out⟩
theorem empty_one (w : World) : Calls Try.prog 38 #[] w fun e w' => ∃ R c, w.heap.size ≤ R ∧ e = .returned (.slice (some ⟨R, 0, none⟩) 16 c) ∧ SRow R blankT w' ∧ Below w.heap.size w w' :=
  (empty_any w).mono fun _ _ ⟨he, hrow, hb⟩ => ⟨_, _, Nat.le_refl _, he, hrow, hb⟩
set_option maxHeartbeats 1000000 in
theorem inew_any (w : World) : Calls Try.prog 28 #[] w fun e w' => NewOut w e w' := by
  have HB := hid (boxB w (.cells #[.slice none 0 0, .int .i64 0, .slice none 0 0, .int .i64 0] 28))
  have hbx : (w.alloc (.cells #[.slice none 0 0, .int .i64 0, .slice none 0 0, .int .i64 0] 28)).heap[w.heap.size]? = some (.cells #[.slice none 0 0, .int .i64 0, .slice none 0 0, .int .i64 0] 28) := heap_last _ _
  have hsz : (w.alloc (.cells #[.slice none 0 0, .int .i64 0, .slice none 0 0, .int .i64 0] 28)).heap.size = w.heap.size + 1 := by simp
  have HC := hid (empty_one (w.alloc (.cells #[.slice none 0 0, .int .i64 0, .slice none 0 0, .int .i64 0] 28)))
  go_enter Try.func28, Try.ntmps28
  go_wp2_with fail
  generalize w.alloc (.cells #[.slice none 0 0, .int .i64 0, .slice none 0 0, .int .i64 0] 28) = W at *
  refine HC.out.mono ?_
  rintro e w2 ⟨R, c, hR0, rfl, hrow, b2⟩
  have hbx2 := (b2.block w.heap.size (by omega)).trans hbx
  have HB2 : Hid (Below w.heap.size w w2) := HB.out.trans (b2.mono HB.out.size)
  have HROW := hid hrow
  have hR : w.heap.size < R := by omega
  have c0 := box_cell hbx2 0
  have f0 := box_free hbx2 0
  have c1 := box_cell hbx2 1
  have f1 := box_free hbx2 1
  have c2 := box_cell hbx2 2
  have f2 := box_free hbx2 2
  have c3 := box_cell hbx2 3
  have f3 := box_free hbx2 3
  have hbx3 := box_set (box_set (box_set (box_set hbx2 0 (.slice (some ⟨R, 0, none⟩) 16 c)) 1 (.int .i64 0)) 2 (.slice none 0 0)) 3 (.int .i64 0)
  have HOW : Hid (SRow R blankT ((((w2.setCell ⟨w.heap.size, 0, none⟩ (.slice (some ⟨R, 0, none⟩) 16 c)).setCell ⟨w.heap.size, 1, none⟩ (.int .i64 0)).setCell ⟨w.heap.size, 2, none⟩ (.slice none 0 0)).setCell ⟨w.heap.size, 3, none⟩ (.int .i64 0))) := by
    refine HROW.out.same (by simp [World.setCell]) ?_
    rw [keepB _ _ _ _ _ (by omega), keepB _ _ _ _ _ (by omega), keepB _ _ _ _ _ (by omega), keepB _ _ _ _ _ (by omega)]
  have HB3 := hid (setB (setB (setB (setB HB2.out w.heap.size 0 (Nat.le_refl _) (.slice (some ⟨R, 0, none⟩) 16 c)) w.heap.size 1 (Nat.le_refl _) (.int .i64 0)) w.heap.size 2 (Nat.le_refl _) (.slice none 0 0)) w.heap.size 3 (Nat.le_refl _) (.int .i64 0))
  have e0 := box_cell hbx3 0
  have e1 := box_cell hbx3 1
  have e2 := box_cell hbx3 2
  have e3 := box_cell hbx3 3
  clear hbx hbx2 hbx3 b2 hrow HC
  simp at c0 c1 c2 c3
  simp at e0 e1 e2 e3
  go_wp2_with fail
  generalize (((w2.setCell ⟨w.heap.size, 0, none⟩ (.slice (some ⟨R, 0, none⟩) 16 c)).setCell ⟨w.heap.size, 1, none⟩ (.int .i64 0)).setCell ⟨w.heap.size, 2, none⟩ (.slice none 0 0)).setCell ⟨w.heap.size, 3, none⟩ (.int .i64 0) = X at *
  refine bodyPost_ret (v := .agg #[.slice (some ⟨R, 0, none⟩) 16 c, .int .i64 0, .slice none 0 0, .int .i64 0]) (by simp [results, Try.results28, go_sem, e0, e1, e2, e3]) rfl ?_
  exact ⟨_, _, rfl, new_own (by omega) HOW.out, HB3.out⟩
end Go.Proofs.Ytlbhfgcpflhccaa
