/- Walk of the program's withLayer. -/
import Derived.Test.YtmbkdollakbigaaHA
import Derived.Test.YtmbkdollakbigaaKGoodJ
namespace Go.Proofs.Ytmbkdollakbigaa
set_option maxRecDepth 100000
open Go Go.ChangeShapes Go.WideShapes Go.ChangeAt Go.RowKit
/-- what a copy of layers leaves -/
def CpK (S : List Ly) (w : World) (e : Ending) (w' : World) : Prop := ∃ v L, e = .returned v ∧ L.map (·.1) = S ∧ KG w.heap.size v L w' ∧ Below w.heap.size w w'
/-- marks and true, in memory of their own, or nothing and false -/
def MOut (o : Option (List Ly)) (w : World) (e : Ending) (w' : World) : Prop := match o with
  | some V => ∃ b c, e = .returned (.tuple #[.agg #[.slice b V.length c], .bool true]) ∧ OwnK w.heap.size w'.heap.size b V w' ∧ Below w.heap.size w w' ∧ V.length ≤ c
  | none => e = .returned (.tuple #[.agg #[.slice none 0 0], .bool false]) ∧ Below w.heap.size w w'
def withK (S : List Ly) (m : Int) : Option (List Ly) := if goodK (S ++ [⟨m, [], []⟩]) = true then some (S ++ [⟨m, [], []⟩]) else none
theorem OwnK.low {lo lo' hi : Nat} {a : Option Addr} {S : List Ly} {w : World} (h : OwnK lo hi a S w) (hl : lo' ≤ lo) : OwnK lo' hi a S w := by
  rcases h with h | ⟨R, A, e, h⟩
  · exact Or.inl h
  · exact Or.inr ⟨R, A, e, by have := h.r0; omega, h.r1, h.r2, h.cell, h.free, fun i hi => (h.ownB i hi).imp id (fun ⟨a1, a2⟩ => ⟨by omega, a2⟩), fun i hi => (h.ownD i hi).imp id (fun ⟨a1, a2⟩ => ⟨by omega, a2⟩), h.bb, h.dd, h.bd⟩
theorem OwnK.high {lo hi hi' : Nat} {a : Option Addr} {S : List Ly} {w : World} (h : OwnK lo hi a S w) (hl : hi ≤ hi') (hs : hi' ≤ w.heap.size) : OwnK lo hi' a S w := by
  rcases h with h | ⟨R, A, e, h⟩
  · exact Or.inl h
  · exact Or.inr ⟨R, A, e, h.r0, by have := h.r1; omega, hs, h.cell, h.free, fun i hi => (h.ownB i hi).imp id (fun ⟨a1, a2, a3⟩ => ⟨a1, by omega, a3⟩), fun i hi => (h.ownD i hi).imp id (fun ⟨a1, a2, a3⟩ => ⟨a1, by omega, a3⟩), h.bb, h.dd, h.bd⟩
theorem OwnK.set {lo hi : Nat} {a : Option Addr} {S : List Ly} {w : World} (h : OwnK lo hi a S w) (X i : Nat) (u : Value) (hX : X < lo ∨ hi ≤ X) : OwnK lo hi a S (w.setCell ⟨X, i, none⟩ u) := by
  rcases h with h | ⟨R, A, e, h⟩
  · exact Or.inl h
  · exact Or.inr ⟨R, A, e, h.keep (by simp [World.setCell]) (fun Y h1 h2 => keepB _ _ _ _ _ (by omega))⟩
end Go.Proofs.Ytmbkdollakbigaa
