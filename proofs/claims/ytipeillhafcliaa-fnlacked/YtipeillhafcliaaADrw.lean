/- What is drawn: a start, asks. -/
import Derived.Test.YtipeillhafcliaaCurR
import Derived.Test.YtipeillhafcliaaAApp
namespace Go.Proofs.Ytipeillhafcliaa
set_option maxRecDepth 100000
open Go Go.ChangeShapes Go.WideShapes Go.ChangeAt Go.RowKit
theorem But.on {B B0 : Nat} {w w2 w9 : World} (h : But B w w2) (g : Below B0 w2 w9) (h0 : w.heap.size ≤ B0) : But B w w9 :=
  ⟨g.os.trans h.os, g.tape.trans h.tape, g.output.trans h.output, Nat.le_trans h.size g.size, fun k hk hB => (g.block k (by omega)).trans (h.block k hk hB)⟩
theorem Cur.on {B B0 N : Nat} {sv : Value} {w2 w9 : World} (h : Cur B N sv w2) (g : Below B0 w2 w9) (h0 : B < B0) : Cur B N sv w9 := by
  have hc : ∀ i, w9.cell? ⟨B, i, none⟩ = w2.cell? ⟨B, i, none⟩ := fun i => g.cell (p := ⟨B, i, none⟩) h0
  have hf : ∀ i, w9.frozen? ⟨B, i, none⟩ = w2.frozen? ⟨B, i, none⟩ := fun i => g.frozen (p := ⟨B, i, none⟩) h0
  obtain ⟨p, p0, p1, hp⟩ := h.place
  obtain ⟨s, s0, s1, hs⟩ := h.seed
  exact ⟨Nat.lt_of_lt_of_le h.lt g.size, (hc 0).trans h.code, ⟨p, p0, p1, (hc 1).trans hp⟩, ⟨s, s0, s1, (hc 2).trans hs⟩, (hf 1).trans h.free1, (hf 2).trans h.free2⟩
theorem AL.but {B lo : Nat} {w w' : World} {v : Value} {l : List Int} (h : AL lo v l w) (g : But B w w') (hB : B < lo) : AL lo v l w' :=
  rw_keep h (fun k hk => g.block k (World.ownsRow.lt h k hk).2 (fun e => by have := (World.ownsRow.lt h k hk).1; omega))
/-- a number is put into a list of one's own -/
theorem AL.put {lo R c : Nat} {l : List Int} {w : World} (h : AL lo (.slice (some ⟨R, 0, none⟩) l.length c) l w) (x : Int) : AL lo (.slice (some ⟨R, 0, none⟩) (l.set 0 x).length c) (l.set 0 x) (w.setCell ⟨R, 0, none⟩ (.int .i64 x)) := by
  have h9 : w.ownsRow lo 3 1 (.slice (some ⟨R, 0, none⟩) l.length c) l.length (ivals l) := h
  unfold AL
  rw [List.length_set]
  obtain ⟨hl, ⟨e, _⟩ | ⟨g, cap, cur, e, h1, hg, h2, h3, h4, h5⟩⟩ := h9
  · cases e
  · injection e with e1 _ e3
    injection e1 with e1
    injection e1 with e1 _ _
    subst e1; subst e3
    have hi : ivals (l.set 0 x) = (ivals l).set 0 (.int .i64 x) := by unfold ivals; rw [List.map_set]
    refine ⟨by simp [ivals], Or.inr ⟨R, c, _, rfl, h1, box_set hg 0 (.int .i64 x), h2, h3, by simp [h4], ?_⟩⟩
    rw [hi, ← h5, Array.toList_setIfInBounds, List.take_set]
end Go.Proofs.Ytipeillhafcliaa
