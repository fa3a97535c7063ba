/- Marks over Works. -/
import Derived.Test.YtgompioaknfjgabUwW
import Derived.Deep.DeepCutAuto
namespace Go.Proofs.Ytgompioaknfjgab
set_option maxRecDepth 100000
open Go Go.ChangeShapes Go.WideShapes Go.ChangeAt Go.RowKit
def Uwk1 (X : Uw) : Nat := 1 + X.cl.length
def Uwk2 (X : Uw) : Nat := Uwk1 X + X.dk.length
def Uwk3 (X : Uw) : Nat := Uwk2 X + 5 * X.lg.length
def Uwk4 (X : Uw) : Nat := Uwk3 X + X.op.length
def Uwmk (X : Uw) : Uw := ⟨imarks X.cl.length 1, imarks X.dk.length (Uwk1 X), ntcMarks X.lg.length (Uwk2 X), X.sr, imarks X.op.length (Uwk3 X)⟩
theorem Uwk_le {X : Uw} (h : UwFit X) : (1 ≤ Uwk1 X ∧ Uwk1 X ≤ 5000000000000) ∧ (1 ≤ Uwk2 X ∧ Uwk2 X ≤ 5000000000000) ∧ (1 ≤ Uwk3 X ∧ Uwk3 X ≤ 5000000000000) ∧ (1 ≤ Uwk4 X ∧ Uwk4 X ≤ 5000000000000) := by
  have h0 := h.c
  have h1 := h.d
  have h2 := h.l
  have h3 := h.o
  unfold Uwk4 Uwk3 Uwk2 Uwk1
  omega
def UwMk (P : Nat → Prop) (A : UwA) (X : Uw) (w : World) : Prop := ∃ col : Nat → Nat, MI (fun b => P b ∧ col b = 0) A.c X.cl w ∧ MI (fun b => P b ∧ col b = 1) A.d X.dk w ∧ MNt (fun b => P b ∧ col b = 2) A.l X.lg w ∧ MI (fun b => P b ∧ col b = 3) A.o X.op w
theorem UwMk.read {P : Nat → Prop} {A : UwA} {X : Uw} {w : World} (h : UwMk P A X w) : UwR w.heap.size A X w := by
  obtain ⟨_, h0, h1, h2, h3⟩ := h
  exact ⟨h0.is, h1.is, h2.ps, h3.is⟩
theorem UwMk.keep {P Q : Nat → Prop} {A : UwA} {X : Uw} {w w' : World} (h : UwMk P A X w) (g : OutP Q w w') (hPQ : ∀ k, P k → ¬ Q k) : UwMk P A X w' := by
  obtain ⟨col, h0, h1, h2, h3⟩ := h
  exact ⟨col, h0.keep g (fun k hk => hPQ k hk.1), h1.keep g (fun k hk => hPQ k hk.1), h2.keep g (fun k hk => hPQ k hk.1), h3.keep g (fun k hk => hPQ k hk.1)⟩
theorem UwMk.on {P : Nat → Prop} {A : UwA} {X : Uw} {w w' : World} (h : UwMk P A X w) (g : Below w.heap.size w w') : UwMk P A X w' := h.keep (OutP.below g) (fun _ _ h => h)
theorem UwMk.wide {P Q : Nat → Prop} {A : UwA} {X : Uw} {w : World} (h : UwMk P A X w) (g : ∀ k, P k → Q k) : UwMk Q A X w := by
  obtain ⟨col, h0, h1, h2, h3⟩ := h
  exact ⟨col, h0.wide (fun k hk => ⟨g k hk.1, hk.2⟩), h1.wide (fun k hk => ⟨g k hk.1, hk.2⟩), h2.wide (fun k hk => ⟨g k hk.1, hk.2⟩), h3.wide (fun k hk => ⟨g k hk.1, hk.2⟩)⟩
theorem UwMk.zero (P : Nat → Prop) (A : UwA) (w : World) : UwMk P A Uwzero w := ⟨fun _ => 0, Or.inl rfl, Or.inl rfl, Or.inl rfl, Or.inl rfl⟩
end Go.Proofs.Ytgompioaknfjgab
