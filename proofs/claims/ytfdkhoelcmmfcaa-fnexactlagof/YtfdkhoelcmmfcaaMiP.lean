/- Mirrors, plain: which marks are set, which the remote place lacks, which mirrors are good. -/
import Derived.Test.YtfdkhoelcmmfcaaKFind
namespace Go.Proofs.Ytfdkhoelcmmfcaa
set_option maxRecDepth 100000
open Go Go.ChangeShapes Go.WideShapes Go.ChangeAt Go.RowKit
/-- the mark of the first layer, and of the second -/
def mk0 (R : List Ly) : Int := (R.getD 0 ⟨0, [], []⟩).mark
def mk1 (R : List Ly) : Int := (R.getD 1 ⟨0, [], []⟩).mark
def bl1 (R : List Ly) : List Int := (R.getD 1 ⟨0, [], []⟩).bl
theorem mk0_at {R : List Ly} (h : 0 < R.length) : mk0 R = R[0].mark := by unfold mk0; rw [List.getD_eq_getElem?_getD, List.getElem?_eq_getElem h]; rfl
theorem mk1_at {R : List Ly} (h : 1 < R.length) : mk1 R = R[1].mark := by unfold mk1; rw [List.getD_eq_getElem?_getD, List.getElem?_eq_getElem h]; rfl
theorem bl1_at {R : List Ly} (h : 1 < R.length) : bl1 R = R[1].bl := by unfold bl1; rw [List.getD_eq_getElem?_getD, List.getElem?_eq_getElem h]; rfl
/-- a mark that is set -/
def setM (S : List Ly) (m : Int) : Bool := decide (fndK S m + 1 < S.length)
/-- a mark that is set behind r -/
def cnd (S : List Ly) (r m : Int) : Bool := decide (r < m) && setM S m
def lackT (S : List Ly) (r : Int) (k : Nat) : List Int := ((S.take k).map (·.mark)).filter (cnd S r)
def lackL (S : List Ly) (r : Int) : List Int := lackT S r S.length
def nextM (S : List Ly) (r : Int) : Int := (lackL S r).headD 0
theorem lackT_zero (S : List Ly) (r : Int) : lackT S r 0 = [] := rfl
theorem lackT_yes {S : List Ly} {r : Int} {k : Nat} (h : k < S.length) (c : cnd S r S[k].mark = true) : lackT S r (k + 1) = lackT S r k ++ [S[k].mark] := by
  unfold lackT
  rw [take_snoc S k h, List.map_append, List.filter_append]
  simp [c]
theorem lackT_no {S : List Ly} {r : Int} {k : Nat} (h : k < S.length) (c : cnd S r S[k].mark = false) : lackT S r (k + 1) = lackT S r k := by
  unfold lackT
  rw [take_snoc S k h, List.map_append, List.filter_append]
  simp [c]
theorem lack_pre (S : List Ly) (r : Int) (k : Nat) : ∃ t, lackL S r = lackT S r k ++ t := ⟨((S.drop k).map (·.mark)).filter (cnd S r), by
  unfold lackL lackT
  rw [List.take_length, ← List.filter_append, ← List.map_append, List.take_append_drop]⟩
theorem next_at {S : List Ly} {r : Int} {k : Nat} (h : k < S.length) (c : cnd S r S[k].mark = true) (e : lackT S r k = []) : nextM S r = S[k].mark := by
  obtain ⟨t, ht⟩ := lack_pre S r (k + 1)
  unfold nextM
  rw [ht, lackT_yes h c, e]
  rfl
theorem next_none {S : List Ly} {r : Int} (e : lackT S r S.length = []) : nextM S r = 0 := by unfold nextM lackL; rw [e]; rfl
theorem lackT_len (S : List Ly) (r : Int) (k : Nat) : (lackT S r k).length ≤ k := by
  unfold lackT
  exact Nat.le_trans (List.length_filter_le _ _) (by simp; omega)
/-- a mirror that is good -/
def GoodMi (S R : List Ly) (st : List Int) (dt : List ByteArray) (tx he : Int) : Prop :=
  (GoodK S ∧ GoodK R ∧ R.length = 2 ∧ mk1 R = mk0 R + 1) ∧ (setM S (mk0 R) = true ∧ setM S he = true ∧ he ≤ mk0 R) ∧ TwoOk dt ∧ (RiseOk st ∧ dt.length = st.length) ∧ (if tx = 0 then st.length = 0 ∧ (bl1 R).length = 0 else tx = nextM S (mk0 R) ∧ 0 < st.length)
instance (S R : List Ly) (st : List Int) (dt : List ByteArray) (tx he : Int) : Decidable (GoodMi S R st dt tx he) := by unfold GoodMi; infer_instance
theorem alloc1 (w : World) (a : Obj) : (w.alloc a).heap[w.heap.size]? = some a ∧ Below w.heap.size w (w.alloc a) := ⟨heap_last _ _, boxB _ _⟩
end Go.Proofs.Ytfdkhoelcmmfcaa
