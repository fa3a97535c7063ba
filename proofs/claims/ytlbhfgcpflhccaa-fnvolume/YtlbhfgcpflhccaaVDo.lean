/- What an op does to a volume; plain; and what DoVolume keeps. -/
import Derived.Test.YtlbhfgcpflhccaaVCopy
namespace Go.Proofs.Ytlbhfgcpflhccaa
set_option maxRecDepth 100000
open Go Go.ChangeShapes Go.WideShapes Go.ChangeAt Go.RowKit G00541
def restOk (o : Op) : Prop := o.place = 0 ∧ o.long = 0 ∧ o.data.data.toList = [] ∧ (o.kind = 5 ∨ o.keep = 0)
instance (o : Op) : Decidable (restOk o) := by unfold restOk; infer_instance
abbrev Vol := List ByteArray × Int × List Rc × Int
/-- a write, a trim or a mark -/
def recDo (B : List ByteArray) (F : Int) (L : List Rc) (s : Int) (o : Op) : Option Vol := if recOk o = true ∧ L.length ≠ 40 ∧ (o.kind = 3 → o.place = markF F L + 1) then some (B, F, L ++ [opR o], s) else none
def crashDo (B : List ByteArray) (F : Int) (L : List Rc) (s : Int) (o : Op) : Option Vol := if s ≤ o.keep ∧ o.keep ≤ L.length then some (B, F, L.take o.keep.toNat, o.keep) else none
def foldDo (B : List ByteArray) (F : Int) (L : List Rc) (s : Int) : Option Vol := some (doL B (L.take s.toNat), markF F (L.take s.toNat), L.drop s.toNat, 0)
def doV (B : List ByteArray) (F : Int) (L : List Rc) (s : Int) (o : Op) : Option Vol :=
  if 1 ≤ o.kind ∧ o.kind ≤ 3 then recDo B F L s o else
  if restOk o then (if o.kind = 4 then some (B, F, L, (L.length : Int)) else if o.kind = 5 then crashDo B F L s o else if o.kind = 6 then foldDo B F L s else none) else none
theorem doV_rec {B : List ByteArray} {F : Int} {L : List Rc} {s : Int} {o : Op} (h : 1 ≤ o.kind ∧ o.kind ≤ 3) : doV B F L s o = recDo B F L s o := by unfold doV; rw [if_pos h]
theorem doV_rest {B : List ByteArray} {F : Int} {L : List Rc} {s : Int} {o : Op} (h : ¬ (1 ≤ o.kind ∧ o.kind ≤ 3)) (g : ¬ restOk o) : doV B F L s o = none := by unfold doV; rw [if_neg h, if_neg g]
theorem doV_four {B : List ByteArray} {F : Int} {L : List Rc} {s : Int} {o : Op} (h : o.kind = 4) (g : restOk o) : doV B F L s o = some (B, F, L, (L.length : Int)) := by unfold doV; rw [if_neg (by omega), if_pos g, if_pos h]
theorem doV_five {B : List ByteArray} {F : Int} {L : List Rc} {s : Int} {o : Op} (h : o.kind = 5) (g : restOk o) : doV B F L s o = crashDo B F L s o := by unfold doV; rw [if_neg (by omega), if_pos g, if_neg (by omega), if_pos h]
theorem doV_six {B : List ByteArray} {F : Int} {L : List Rc} {s : Int} {o : Op} (h : o.kind = 6) (g : restOk o) : doV B F L s o = foldDo B F L s := by unfold doV; rw [if_neg (by omega), if_pos g, if_neg (by omega), if_neg (by omega), if_pos h]
theorem doV_other {B : List ByteArray} {F : Int} {L : List Rc} {s : Int} {o : Op} (h : ¬ (1 ≤ o.kind ∧ o.kind ≤ 6)) : doV B F L s o = none := by
  unfold doV
  rw [if_neg (by omega), if_neg (show ¬ o.kind = 4 by omega), if_neg (show ¬ o.kind = 5 by omega), if_neg (show ¬ o.kind = 6 by omega)]
  split <;> rfl
theorem recDo_no {B : List ByteArray} {F : Int} {L : List Rc} {s : Int} {o : Op} (h : recOk o = false) : recDo B F L s o = none := by unfold recDo; rw [if_neg (by rw [h]; exact fun g => by cases g.1)]
theorem need_rest {o : Op} (h : ¬ (1 ≤ o.kind ∧ o.kind ≤ 3)) : needOk o = decide (restOk o) := by
  refine need_eq _ _ ?_
  rw [decide_eq_true_iff]
  unfold needP restOk
  have h1 : ¬ o.kind = 1 := by omega
  have h2 : ¬ o.kind = 2 := by omega
  have h3 : ¬ o.kind = 3 := by omega
  simp [h1, h2, h3]
theorem doV_need {B : List ByteArray} {F : Int} {L : List Rc} {s : Int} {o : Op} (h : needOk o = false) : doV B F L s o = none := by
  by_cases hk : 1 ≤ o.kind ∧ o.kind ≤ 3
  · rw [doV_rec hk]
    refine recDo_no ?_
    cases hr : recOk o
    · rfl
    · rw [rec_need hr] at h; cases h
  · rw [need_rest hk] at h
    exact doV_rest hk (of_decide_eq_false h)
/-- what DoVolume answers -/
def DOut (o : Option Vol) (w : World) (e : Ending) (w' : World) : Prop := match o with
  | some v => ∃ aB kB aL kL, e = .returned (.tuple #[.agg #[.slice aB v.1.length kB, .int .i64 v.2.1, .slice aL v.2.2.1.length kL, .int .i64 v.2.2.2], .bool true]) ∧ OwnV w.heap.size w'.heap.size aB v.1 aL v.2.2.1 w' ∧ Below w.heap.size w w'
  | none => e = .returned (.tuple #[.agg #[.slice none 0 0, .int .i64 0, .slice none 0 0, .int .i64 0], .bool false]) ∧ Below w.heap.size w w'
/-- the boxes of DoVolume: its volume, its op, its answer -/
structure DK (w : World) (X O Z : Array Value) (wr : World) : Prop where
  below : Below w.heap.size w wr
  x : wr.heap[w.heap.size]? = some (.cells X 28)
  o : wr.heap[w.heap.size + 1]? = some (.cells O 35)
  z : wr.heap[w.heap.size + 1 + 1]? = some (.cells Z 28)
theorem DK.start (w : World) (X O Z : Array Value) : DK w X O Z (((w.alloc (.cells X 28)).alloc (.cells O 35)).alloc (.cells Z 28)) := by
  refine ⟨(((Below.refl _ _).alloc (Nat.le_refl _) _).alloc (by simp) _).alloc (by simp; omega) _, ?_, ?_, heap_last3 _ _ _ _⟩
  · rw [Below.heap_alloc _ _ _ (by simp; omega), Below.heap_alloc _ _ _ (by simp)]
    exact heap_last _ _
  · rw [Below.heap_alloc _ _ _ (by simp)]
    exact heap_last2 _ _ _
theorem DK.step {w : World} {X O Z : Array Value} {wr w' : World} (h : DK w X O Z wr) (g : Below (w.heap.size + 3) wr w') : DK w X O Z w' :=
  ⟨h.below.trans (g.mono (by omega)), (g.block _ (by omega)).trans h.x, (g.block _ (by omega)).trans h.o, (g.block _ (by omega)).trans h.z⟩
theorem DK.size {w : World} {X O Z : Array Value} {wr : World} (h : DK w X O Z wr) : w.heap.size + 3 ≤ wr.heap.size := by
  rcases Nat.lt_or_ge (w.heap.size + 1 + 1) wr.heap.size with h' | h'
  · omega
  · have := h.z
    rw [Array.getElem?_eq_none h'] at this; cases this
theorem DK.on {w : World} {X O Z : Array Value} {wr w' : World} (h : DK w X O Z wr) (g : Below wr.heap.size wr w') : DK w X O Z w' := h.step (g.mono h.size)
theorem DK.fill {w : World} {X O : Array Value} {z0 z1 z2 z3 : Value} {wr : World} (h : DK w X O #[z0, z1, z2, z3] wr) (a b c d : Value) : DK w X O #[a, b, c, d] ((((wr.setCell ⟨w.heap.size + 1 + 1, 0, none⟩ a).setCell ⟨w.heap.size + 1 + 1, 1, none⟩ b).setCell ⟨w.heap.size + 1 + 1, 2, none⟩ c).setCell ⟨w.heap.size + 1 + 1, 3, none⟩ d) := by
  refine ⟨setB (setB (setB (setB h.below _ _ (by omega) _) _ _ (by omega) _) _ _ (by omega) _) _ _ (by omega) _, ?_, ?_, ?_⟩
  · rw [keepB _ _ _ _ _ (by omega), keepB _ _ _ _ _ (by omega), keepB _ _ _ _ _ (by omega), keepB _ _ _ _ _ (by omega)]; exact h.x
  · rw [keepB _ _ _ _ _ (by omega), keepB _ _ _ _ _ (by omega), keepB _ _ _ _ _ (by omega), keepB _ _ _ _ _ (by omega)]; exact h.o
  · have := box_set (box_set (box_set (box_set h.z 0 a) 1 b) 2 c) 3 d
    simpa using this
theorem DK.cells {w : World} {X O : Array Value} {wr : World} (h : DK w X O #[.slice none 0 0, .int .i64 0, .slice none 0 0, .int .i64 0] wr) : (wr.cell? ⟨w.heap.size + 1 + 1, 0, none⟩ = some (.slice none 0 0) ∧ wr.cell? ⟨w.heap.size + 1 + 1, 1, none⟩ = some (.int .i64 0) ∧ wr.cell? ⟨w.heap.size + 1 + 1, 2, none⟩ = some (.slice none 0 0) ∧ wr.cell? ⟨w.heap.size + 1 + 1, 3, none⟩ = some (.int .i64 0)) ∧ wr.frozen? ⟨w.heap.size + 1 + 1, 0, none⟩ = false ∧ wr.frozen? ⟨w.heap.size + 1 + 1, 1, none⟩ = false ∧ wr.frozen? ⟨w.heap.size + 1 + 1, 2, none⟩ = false ∧ wr.frozen? ⟨w.heap.size + 1 + 1, 3, none⟩ = false :=
  ⟨⟨box_cell h.z 0, box_cell h.z 1, box_cell h.z 2, box_cell h.z 3⟩, box_free h.z 0, box_free h.z 1, box_free h.z 2, box_free h.z 3⟩
theorem DK.vol {w : World} {a b c d : Value} {O Z : Array Value} {wr : World} (h : DK w #[a, b, c, d] O Z wr) : wr.cell? ⟨w.heap.size, 0, none⟩ = some a ∧ wr.cell? ⟨w.heap.size, 1, none⟩ = some b ∧ wr.cell? ⟨w.heap.size, 2, none⟩ = some c ∧ wr.cell? ⟨w.heap.size, 3, none⟩ = some d := ⟨box_cell h.x 0, box_cell h.x 1, box_cell h.x 2, box_cell h.x 3⟩
theorem DK.op {w : World} {X Z : Array Value} {a b c d e : Value} {wr : World} (h : DK w X #[a, b, c, d, e] Z wr) : wr.cell? ⟨w.heap.size + 1, 0, none⟩ = some a ∧ wr.cell? ⟨w.heap.size + 1, 1, none⟩ = some b ∧ wr.cell? ⟨w.heap.size + 1, 2, none⟩ = some c ∧ wr.cell? ⟨w.heap.size + 1, 3, none⟩ = some d ∧ wr.cell? ⟨w.heap.size + 1, 4, none⟩ = some e := ⟨box_cell h.o 0, box_cell h.o 1, box_cell h.o 2, box_cell h.o 3, box_cell h.o 4⟩
end Go.Proofs.Ytlbhfgcpflhccaa
