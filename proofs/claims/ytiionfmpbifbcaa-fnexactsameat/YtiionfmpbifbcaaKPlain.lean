/- Marks: layers by lists; plain. -/
import Derived.Test.YtiionfmpbifbcaaStrR
import Derived.Test.YtiionfmpbifbcaaIntR
import Derived.Test.YtiionfmpbifbcaaVBase
import Derived.Test.YtiionfmpbifbcaaChecked
namespace Go.Proofs.Ytiionfmpbifbcaa
set_option maxRecDepth 100000
open Go Go.ChangeShapes Go.WideShapes Go.ChangeAt Go.RowKit
/-- a layer -/
structure Ly where
  mark : Int
  bl : List Int
  dt : List ByteArray
/-- the number ahead of place k, -1 for none -/
def aheadI (l : List Int) : Nat → Int
  | 0 => -1
  | k + 1 => l.getD k 0
theorem aheadI_at (l : List Int) (k : Nat) (h : k < l.length) : aheadI l (k + 1) = l[k] := by
  show l.getD k 0 = _
  rw [List.getD_eq_getElem?_getD, List.getElem?_eq_getElem h]; rfl
/-- the k-th number of blocks is a block and rises -/
def blOk (l : List Int) (k : Nat) (x : Int) : Prop := aheadI l k < x ∧ 0 ≤ x ∧ x ≤ 15
instance (l : List Int) (k : Nat) (x : Int) : Decidable (blOk l k x) := by unfold blOk; infer_instance
def RiseOk (l : List Int) : Prop := ∀ k (h : k < l.length), blOk l k l[k]
instance (l : List Int) : Decidable (RiseOk l) := by unfold RiseOk; infer_instance
def TwoOk (l : List ByteArray) : Prop := ∀ k (h : k < l.length), l[k].size = 2
instance (l : List ByteArray) : Decidable (TwoOk l) := by unfold TwoOk; infer_instance
/-- a layer that is good, but for its mark -/
def lyOk (y : Ly) : Prop := RiseOk y.bl ∧ y.dt.length = y.bl.length ∧ TwoOk y.dt
instance (y : Ly) : Decidable (lyOk y) := by unfold lyOk; infer_instance
def aheadM (S : List Ly) : Nat → Int
  | 0 => -1
  | k + 1 => (S.map (·.mark)).getD k 0
theorem aheadM_at (S : List Ly) (k : Nat) (h : k < S.length) : aheadM S (k + 1) = S[k].mark := by
  show (S.map (·.mark)).getD k 0 = _
  rw [List.getD_eq_getElem?_getD, List.getElem?_map, List.getElem?_eq_getElem h]; rfl
/-- the k-th layer is good -/
def lyAt (S : List Ly) (k : Nat) (y : Ly) : Prop := aheadM S k < y.mark ∧ 0 ≤ y.mark ∧ y.mark ≤ 200 ∧ lyOk y
instance (S : List Ly) (k : Nat) (y : Ly) : Decidable (lyAt S k y) := by unfold lyAt; infer_instance
def LysOk (S : List Ly) : Prop := ∀ k (h : k < S.length), lyAt S k S[k]
instance (S : List Ly) : Decidable (LysOk S) := by unfold LysOk; infer_instance
def GoodK (S : List Ly) : Prop := 1 ≤ S.length ∧ S.length ≤ 8 ∧ LysOk S
instance (S : List Ly) : Decidable (GoodK S) := by unfold GoodK; infer_instance
def goodK (S : List Ly) : Bool := decide (GoodK S)
theorem goodK_iff {S : List Ly} : goodK S = true ↔ GoodK S := by unfold goodK; exact decide_eq_true_iff
theorem goodK_no {S : List Ly} (h : ¬ GoodK S) : goodK S = false := decide_eq_false h
theorem goodK_bad {S : List Ly} (k : Nat) (hk : k < S.length) (h : ¬ lyAt S k S[k]) : goodK S = false := goodK_no (fun g => h (g.2.2 k hk))
/-- layers in memory below block B -/
def Ys (B : Nat) (a : Option Addr) (S : List Ly) (w : World) : Prop := 0 < S.length → ∃ b off, a = some ⟨b, off, none⟩ ∧ b < B ∧ ∀ i (hi : i < S.length), ∃ p c q d, w.cell? ⟨b, off + i * 3, none⟩ = some (.int .i64 S[i].mark) ∧ w.cell? ⟨b, off + i * 3 + 1, none⟩ = some (.slice p S[i].bl.length c) ∧ w.cell? ⟨b, off + i * 3 + 2, none⟩ = some (.slice q S[i].dt.length d) ∧ Is B p S[i].bl w ∧ Ss B q S[i].dt w
theorem Ys.below {B : Nat} {a : Option Addr} {S : List Ly} {w w' : World} (h : Ys B a S w) (g : Below B w w') : Ys B a S w' := fun h0 => by
  obtain ⟨b, off, e, hb, hc⟩ := h h0
  refine ⟨b, off, e, hb, fun i hi => ?_⟩
  obtain ⟨p, c, q, d, h1, h2, h3, h4, h5⟩ := hc i hi
  exact ⟨p, c, q, d, (g.cell (p := ⟨b, _, none⟩) hb).trans h1, (g.cell (p := ⟨b, _, none⟩) hb).trans h2, (g.cell (p := ⟨b, _, none⟩) hb).trans h3, h4.below g, h5.below g⟩
theorem Ys.mono {B B' : Nat} {a : Option Addr} {S : List Ly} {w : World} (h : Ys B a S w) (hB : B ≤ B') : Ys B' a S w := fun h0 => by
  obtain ⟨b, off, e, hb, hc⟩ := h h0
  refine ⟨b, off, e, by omega, fun i hi => ?_⟩
  obtain ⟨p, c, q, d, h1, h2, h3, h4, h5⟩ := hc i hi
  exact ⟨p, c, q, d, h1, h2, h3, h4.mono hB, h5.mono hB⟩
theorem Ys.up {B : Nat} {a : Option Addr} {S : List Ly} {w w' : World} (h : Ys B a S w) (g : Below B w w') (hB : B ≤ w'.heap.size) : Ys w'.heap.size a S w' := (h.below g).mono hB
/-- a layer's value -/
def lyv (m : Int) (p : Option Addr) (n c : Nat) (q : Option Addr) (k d : Nat) : Value := .agg #[.int .i64 m, .slice p n c, .slice q k d]
end Go.Proofs.Ytiionfmpbifbcaa
