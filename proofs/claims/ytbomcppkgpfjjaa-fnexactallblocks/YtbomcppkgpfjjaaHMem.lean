/- Heaps in memory. -/
import Derived.Test.YtbomcppkgpfjjaaHPlain
import Derived.Test.YtbomcppkgpfjjaaBoolR
namespace Go.Proofs.Ytbomcppkgpfjjaa
set_option maxRecDepth 100000
open Go Go.ChangeShapes Go.WideShapes Go.ChangeAt Go.RowKit G00541
/-- segments in memory below block B -/
def Gs (B : Nat) (a : Option Addr) (S : List Sg) (w : World) : Prop := 0 < S.length → ∃ b off, a = some ⟨b, off, none⟩ ∧ b < B ∧ ∀ i (hi : i < S.length), ∃ p c, w.cell? ⟨b, off + i * 2, none⟩ = some (.slice p S[i].bl.length c) ∧ w.cell? ⟨b, off + i * 2 + 1, none⟩ = some (.int .i64 S[i].age) ∧ Is B p S[i].bl w
/-- rows of truth values in memory below block B -/
def Vs (B : Nat) (a : Option Addr) (L : List (List Bool)) (w : World) : Prop := 0 < L.length → ∃ b off, a = some ⟨b, off, none⟩ ∧ b < B ∧ ∀ i (hi : i < L.length), ∃ p c, w.cell? ⟨b, off + i, none⟩ = some (.slice p L[i].length c) ∧ Bs B p L[i] w
theorem Gs.below {B : Nat} {a : Option Addr} {S : List Sg} {w w' : World} (h : Gs B a S w) (g : Below B w w') : Gs B a S w' := fun h0 => by
  obtain ⟨b, off, e, hb, hc⟩ := h h0
  refine ⟨b, off, e, hb, fun i hi => ?_⟩
  obtain ⟨p, c, h1, h2, h3⟩ := hc i hi
  exact ⟨p, c, (g.cell (p := ⟨b, _, none⟩) hb).trans h1, (g.cell (p := ⟨b, _, none⟩) hb).trans h2, h3.below g⟩
theorem Vs.below {B : Nat} {a : Option Addr} {L : List (List Bool)} {w w' : World} (h : Vs B a L w) (g : Below B w w') : Vs B a L w' := fun h0 => by
  obtain ⟨b, off, e, hb, hc⟩ := h h0
  refine ⟨b, off, e, hb, fun i hi => ?_⟩
  obtain ⟨p, c, h1, h3⟩ := hc i hi
  exact ⟨p, c, (g.cell (p := ⟨b, _, none⟩) hb).trans h1, h3.below g⟩
theorem Gs.mono {B B' : Nat} {a : Option Addr} {S : List Sg} {w : World} (h : Gs B a S w) (hB : B ≤ B') : Gs B' a S w := fun h0 => by
  obtain ⟨b, off, e, hb, hc⟩ := h h0
  refine ⟨b, off, e, by omega, fun i hi => ?_⟩
  obtain ⟨p, c, h1, h2, h3⟩ := hc i hi
  exact ⟨p, c, h1, h2, h3.mono hB⟩
theorem Vs.mono {B B' : Nat} {a : Option Addr} {L : List (List Bool)} {w : World} (h : Vs B a L w) (hB : B ≤ B') : Vs B' a L w := fun h0 => by
  obtain ⟨b, off, e, hb, hc⟩ := h h0
  refine ⟨b, off, e, by omega, fun i hi => ?_⟩
  obtain ⟨p, c, h1, h3⟩ := hc i hi
  exact ⟨p, c, h1, h3.mono hB⟩
/-- a heap's value -/
def hval (aS aL : Option Addr) (nS cS nL cL : Nat) : Value := .agg #[.slice aS nS cS, .slice aL nL cL]
end Go.Proofs.Ytbomcppkgpfjjaa
