/- A device that came in, opened to its zones. -/
import Derived.Test.YtbalahgfikeobasGOpen
import Derived.Test.YtbalahgfikeobasZ
namespace Go.Proofs.Ytbalahgfikeobas
open Go Go.ChangeShapes Go.WideShapes Go.ChangeAt Go.RowKit Go.Deep
theorem three {α : Type} {l : List α} {a b c : α} (h : l.length = 3) (h0 : (l.drop 0).take 1 = [a]) (h1 : (l.drop 1).take 1 = [b]) (h2 : (l.drop 2).take 1 = [c]) : l = [a, b, c] := by
  match l, h with
  | [x, y, z], _ =>
    simp at h0 h1 h2
    subst h0; subst h1; subst h2; rfl
theorem zone_of {H : Type} {enc : TypeId × Value → H} {P : Program} {W : World} {base : Nat} {sp : Nat → Bool} {held : Bool} {t : TypeId} {f0 f1 f2 : Field} {fuel : Nat} {cs : List Value} {x : DataW H × List MemPlace}
    (ht : P.underlying t = some (.struct #[f0, f1, f2])) (hc : P.cellsOf t = 3) (o0 : f0.offset = 0) (o1 : f1.offset = 1) (o2 : f2.offset = 2)
    (u0 : P.underlying f0.type = some .string) (u1 : P.underlying f1.type = some (.int .i64)) (u2 : P.underlying f2.type = some .bool)
    (c0 : P.cellsOf f0.type = 1) (c1 : P.cellsOf f1.type = 1) (c2 : P.cellsOf f2.type = 1)
    (h : DataW.trod enc P W base sp held fuel t cs = some x) : ∃ z : Zn, cs = zcells z ∧ z.data.size ≤ maxLen ∧ (Lit.int .i64 z.sure).wf = true := by
  obtain ⟨xs, n, _, _, hl, hlen, hf⟩ := DataW.trod_struct ht h
  match xs, hlen with
  | [y0, y1, y2], _ =>
    have g0 := hf 0 f0 rfl
    have g1 := hf 1 f1 rfl
    have g2 := hf 2 f2 rfl
    rw [o0, c0] at g0
    rw [o1, c1] at g1
    rw [o2, c2] at g2
    obtain ⟨s, e0, _, hs⟩ := DataW.trod_string u0 g0
    obtain ⟨m, e1, _, hm⟩ := DataW.trod_int u1 g1
    obtain ⟨b, e2, _⟩ := DataW.trod_bool u2 g2
    exact ⟨⟨s, m, b⟩, three (by omega) e0 e1 e2, hs, hm⟩
theorem device_of {H : Type} {enc : TypeId × Value → H} {P : Program} {W : World} {r : Reach} {b0 : Nat} {tD tZ : TypeId} {fZ f0 f1 f2 : Field} {v : Value} {d : DataW H} {ps : List MemPlace}
    (hD : P.underlying tD = some (.struct #[fZ])) (hcD : P.cellsOf tD = 1) (oZ : fZ.offset = 0) (hcS : P.cellsOf fZ.type = 1) (hS : P.underlying fZ.type = some (.slice tZ))
    (ht : P.underlying tZ = some (.struct #[f0, f1, f2])) (hc : P.cellsOf tZ = 3) (o0 : f0.offset = 0) (o1 : f1.offset = 1) (o2 : f2.offset = 2)
    (u0 : P.underlying f0.type = some .string) (u1 : P.underlying f1.type = some (.int .i64)) (u2 : P.underlying f2.type = some .bool)
    (c0 : P.cellsOf f0.type = 1) (c1 : P.cellsOf f1.type = 1) (c2 : P.cellsOf f2.type = 1)
    (hval : Value.okWide P W r b0 tD v) (h : DataW.Trod enc P W 0 (fun _ => true) true tD v d ps) :
    ∃ (a : Option Addr) (cap : Nat) (zs : List Zn), v = .agg #[.slice a zs.length cap] ∧ Zs W.heap.size a zs W ∧ (∀ z ∈ zs, z.data.size ≤ 9223372036854775807) ∧ zs.length ≤ 9223372036854775807 := by
  obtain ⟨cs, rfl, hsz⟩ := okWide_struct hD hval
  obtain ⟨fuel, hf⟩ := h
  obtain ⟨y0, n, _, hl, g⟩ := trod_struct1 hD hf
  rw [oZ, hcS] at g
  have hcs : (Value.agg cs).cells.toList = cs.toList := by simp [Value.cells]
  rw [hcs] at g hl
  have h1 : cs.toList.length = 1 := by omega
  obtain ⟨x, hx⟩ : ∃ x, cs = #[x] := by
    match cs, h1 with
    | ⟨[x]⟩, _ => exact ⟨x, rfl⟩
  subst hx
  have g' : DataW.trod enc P W 0 (fun _ => true) true n fZ.type [x] = some y0 := g
  obtain ⟨a, len, cap, rfl⟩ : ∃ a len cap, x = .slice a len cap := by
    rcases open_slice hS g' with ⟨hcs, _⟩ | ⟨x', l, c, _, _, _, _, hcs, _⟩
    · exact ⟨none, 0, 0, by simpa using hcs⟩
    · exact ⟨some x', l, c, by simpa using hcs⟩
  obtain ⟨rows, hlen, hgs, hrows, hmax⟩ := gsl_of hS hc (by decide) g'
  obtain ⟨zs, rfl, hq⟩ := list_of (f := zcells) (Q := fun z => z.data.size ≤ maxLen) rows (fun r hr => by
    obtain ⟨n, x, hx⟩ := hrows r hr
    obtain ⟨z, hz, hs, _⟩ := zone_of ht hc o0 o1 o2 u0 u1 u2 c0 c1 c2 hx
    exact ⟨z, hz, hs⟩)
  have hlen' : zs.length = len := by simpa using hlen
  subst hlen'
  have e : maxLen = 9223372036854775807 := by decide
  rw [e] at hmax
  exact ⟨a, cap, zs, rfl, hgs, fun z hz => by have := hq z hz; rw [e] at this; exact this, hmax⟩
end Go.Proofs.Ytbalahgfikeobas
