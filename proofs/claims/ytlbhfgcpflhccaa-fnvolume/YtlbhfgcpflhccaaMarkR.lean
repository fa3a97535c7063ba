/- Walks of the laws' helpers over records: marks laid and held. -/
import Derived.Test.YtlbhfgcpflhccaaHRecS
import Derived.Test.YtlbhfgcpflhccaaMarkT
import Derived.Test.YtlbhfgcpflhccaaOut
namespace Go.Proofs.Ytlbhfgcpflhccaa
set_option maxRecDepth 100000
open Go.ChangeShapes Go.WideShapes Go.ChangeAt Go.RowKit G00541
def mrec (k : Nat) : Rc := ⟨(k : Int), (k : Int) + 1, (k : Int) + 1 + 1, (markT (k + 3)).data.toList⟩
theorem mrec_data (k : Nat) : str (mrec k).data = markT (k + 3) := str_back _
def rmarks (n k : Nat) : List Rc := (List.range n).map fun i => mrec (k + 4 * i)
theorem rmarks_len (n k : Nat) : (rmarks n k).length = n := by simp [rmarks]
theorem rmarks_at (n k i : Nat) (h : i < (rmarks n k).length) : (rmarks n k)[i] = mrec (k + 4 * i) := by simp [rmarks]
theorem ret_i {k : IntKind} {a b : Int} (h : a = b) : Ending.returned (.int k a) = .returned (.int k b) := by rw [h]
theorem val_i {k : IntKind} {a b : Int} (h : a = b) : Value.int k a = .int k b := by rw [h]
theorem RRow.setMark {R : Nat} {l : List Rc} {w w1 : World} (h : RRow R l w) (k : Nat) (hk : k < l.length) (z : Rc) (hb : Below (((w.setCell ⟨R, k * 4, none⟩ (.int .i64 z.kind)).setCell ⟨R, k * 4 + 1, none⟩ (.int .i64 z.place)).setCell ⟨R, k * 4 + 2, none⟩ (.int .i64 z.long)).heap.size (((w.setCell ⟨R, k * 4, none⟩ (.int .i64 z.kind)).setCell ⟨R, k * 4 + 1, none⟩ (.int .i64 z.place)).setCell ⟨R, k * 4 + 2, none⟩ (.int .i64 z.long)) w1) :
    RRow R (l.set k z) (w1.setCell ⟨R, k * 4 + 3, none⟩ (.string (str z.data))) := by
  have h1 := h.setAt k 0 hk (by decide) (.int .i64 z.kind) ⟨z.kind, l[k].place, l[k].long, l[k].data⟩ rfl
  have h2 := h1.setAt k 1 (by simpa using hk) (by decide) (.int .i64 z.place) ⟨z.kind, z.place, l[k].long, l[k].data⟩ (by rw [List.getElem_set_self]; rfl)
  have h3 := h2.setAt k 2 (by simpa using hk) (by decide) (.int .i64 z.long) ⟨z.kind, z.place, z.long, l[k].data⟩ (by rw [List.getElem_set_self]; rfl)
  have h3' := h3.below hb
  have h4 := h3'.setAt k 3 (by simpa using hk) (by decide) (.string (str z.data)) z (by rw [List.getElem_set_self]; rfl)
  simpa using h4
theorem OwnR.out {lo hi l2 h2 : Nat} {a : Option Addr} {l : List Rc} {w w' : World} (h : OwnR lo hi a l w) (g : Out l2 h2 w w') (hd : hi ≤ l2 ∨ h2 ≤ lo) : OwnR lo hi a l w' := by
  rcases h with h | ⟨R, h1, h3, e, hr⟩
  · exact Or.inl h
  · exact Or.inr ⟨R, h1, h3, e, hr.same g.size (g.block R hr.lt (by omega))⟩
end Go.Proofs.Ytlbhfgcpflhccaa
