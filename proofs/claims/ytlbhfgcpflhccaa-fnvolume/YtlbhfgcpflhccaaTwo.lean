/- A record's place that a call answers in, and a record beside it. -/
import Derived.Test.YtlbhfgcpflhccaaGood
namespace Go.Proofs.Ytlbhfgcpflhccaa
set_option maxRecDepth 100000
open Go Go.RowKit G00541
def zrec : Value := .agg #[.int .i64 0, .int .i64 0, .int .i64 0, .string ⟨#[]⟩]
/-- block B is a record's place, all zero, and free -/
structure ZeroAt (w : World) (B : Nat) (v : World) : Prop where
  z0 : v.cell? ⟨B, 0, none⟩ = some (.int .i64 0)
  z1 : v.cell? ⟨B, 1, none⟩ = some (.int .i64 0)
  z2 : v.cell? ⟨B, 2, none⟩ = some (.int .i64 0)
  z3 : v.cell? ⟨B, 3, none⟩ = some (.string ⟨#[]⟩)
  f0 : v.frozen? ⟨B, 0, none⟩ = false
  f1 : v.frozen? ⟨B, 1, none⟩ = false
  f2 : v.frozen? ⟨B, 2, none⟩ = false
  f3 : v.frozen? ⟨B, 3, none⟩ = false
  bel : Below w.heap.size w v
  low : w.heap.size ≤ B
  lt : B < v.heap.size
theorem ZeroAt.below {w : World} {B : Nat} {v v' : World} (h : ZeroAt w B v) (g : Below v.heap.size v v') : ZeroAt w B v' := by
  have hc : ∀ i, v'.cell? ⟨B, i, none⟩ = v.cell? ⟨B, i, none⟩ := fun i => g.cell (p := ⟨B, i, none⟩) h.lt
  have hf : ∀ i, v'.frozen? ⟨B, i, none⟩ = v.frozen? ⟨B, i, none⟩ := fun i => g.frozen (p := ⟨B, i, none⟩) h.lt
  exact ⟨(hc 0).trans h.z0, (hc 1).trans h.z1, (hc 2).trans h.z2, (hc 3).trans h.z3, (hf 0).trans h.f0, (hf 1).trans h.f1, (hf 2).trans h.f2, (hf 3).trans h.f3,
    h.bel.trans (g.mono h.bel.size), h.low, Nat.lt_of_lt_of_le h.lt g.size⟩
theorem ZeroAt.drew {w : World} {B : Nat} {v : World} (h : ZeroAt w B v) : ZeroAt w B v.drew :=
  ⟨h.z0, h.z1, h.z2, h.z3, h.f0, h.f1, h.f2, h.f3, h.bel.drew, h.low, h.lt⟩
theorem ZeroAt.start (w : World) : ZeroAt w w.heap.size (w.alloc (.cells #[.int .i64 0, .int .i64 0, .int .i64 0, .string ⟨#[]⟩] 37)) :=
  ⟨by go_simp, by go_simp, by go_simp, by go_simp, by go_simp, by go_simp, by go_simp, by go_simp, (Below.refl _ _).alloc (Nat.le_refl _) _, Nat.le_refl _, by simp⟩
/-- block B holds a record -/
structure RecAt (B : Nat) (k p n : Int) (D : ByteArray) (v : World) : Prop where
  c0 : v.cell? ⟨B, 0, none⟩ = some (.int .i64 k)
  c1 : v.cell? ⟨B, 1, none⟩ = some (.int .i64 p)
  c2 : v.cell? ⟨B, 2, none⟩ = some (.int .i64 n)
  c3 : v.cell? ⟨B, 3, none⟩ = some (.string D)
  lt : B < v.heap.size
theorem RecAt.below {B : Nat} {k p n : Int} {D : ByteArray} {v v' : World} (h : RecAt B k p n D v) (g : Below v.heap.size v v') : RecAt B k p n D v' := by
  have hc : ∀ i, v'.cell? ⟨B, i, none⟩ = v.cell? ⟨B, i, none⟩ := fun i => g.cell (p := ⟨B, i, none⟩) h.lt
  exact ⟨(hc 0).trans h.c0, (hc 1).trans h.c1, (hc 2).trans h.c2, (hc 3).trans h.c3, Nat.lt_of_lt_of_le h.lt g.size⟩
theorem RecAt.drew {B : Nat} {k p n : Int} {D : ByteArray} {v : World} (h : RecAt B k p n D v) : RecAt B k p n D v.drew := ⟨h.c0, h.c1, h.c2, h.c3, h.lt⟩
theorem RecAt.start (k p n : Int) (D : ByteArray) (w : World) (T : TypeId) : RecAt w.heap.size k p n D (w.alloc (.cells #[.int .i64 k, .int .i64 p, .int .i64 n, .string D] T)) :=
  ⟨by go_simp, by go_simp, by go_simp, by go_simp, by simp⟩
theorem setFour {w v : World} (h : Below w.heap.size w v) {B : Nat} (hB : w.heap.size ≤ B) (a b c d : Value) : Below w.heap.size w ((((v.setCell ⟨B, 0, none⟩ a).setCell ⟨B, 1, none⟩ b).setCell ⟨B, 2, none⟩ c).setCell ⟨B, 3, none⟩ d) :=
  (((h.setCell hB _).setCell hB _).setCell hB _).setCell hB _
end Go.Proofs.Ytlbhfgcpflhccaa
