/- What a law over devices keeps while it goes: the devices that it has laid, and the bytes that it draws of. -/
import Derived.Test.YteofdaecknlkdaaTells2
import Derived.Test.YteofdaecknlkdaaSame
import Derived.Test.YteofdaecknlkdaaDraws2
namespace Go.Proofs.Yteofdaecknlkdaa
set_option maxRecDepth 100000
open Go.ChangeShapes Go.WideShapes Go.ChangeAt Go.RowKit
/-- the law's devices: each a variable's block, the zones' place, the zones, their room -/
structure St (w0 : World) (L : List (Nat × Option Addr × List Zn × Nat)) (l2 c2 : Nat) (a2 : Option Addr) (w : World) : Prop where
  below : Below w0.heap.size w0 w
  code : Code w0.heap.size l2 c2 a2 w
  dev : ∀ x ∈ L, w.heap[x.1]? = some (.cells #[.slice x.2.1 x.2.2.1.length x.2.2.2] 25) ∧ Zs w.heap.size x.2.1 x.2.2.1 w
theorem St.on {w0 : World} {L : List (Nat × Option Addr × List Zn × Nat)} {l2 c2 : Nat} {a2 : Option Addr} {w w' : World} (h : St w0 L l2 c2 a2 w) (g : Below w.heap.size w w') : St w0 L l2 c2 a2 w' :=
  ⟨h.below.trans (g.mono h.below.size), h.code.below (g.mono h.below.size), fun x hx => ⟨(g.block _ (block_lt (h.dev x hx).1)).trans (h.dev x hx).1, ((h.dev x hx).2.below g).mono g.size⟩⟩
theorem St.lay {w0 : World} {L : List (Nat × Option Addr × List Zn × Nat)} {l2 c2 : Nat} {a2 : Option Addr} {w : World} (h : St w0 L l2 c2 a2 w) (b : Option Addr) (V : List Zn) (c : Nat) (ho : Zs w.heap.size b V w) :
    St w0 ((w.heap.size, b, V, c) :: L) l2 c2 a2 (w.alloc (.cells #[.slice b V.length c] 25)) := by
  have ga : Below w.heap.size w (w.alloc (.cells #[.slice b V.length c] 25)) := (Below.refl _ _).alloc (Nat.le_refl _) _
  have h' := h.on ga
  refine ⟨h'.below, h'.code, fun x hx => ?_⟩
  rcases List.mem_cons.1 hx with rfl | hx
  · exact ⟨heap_last _ _, (ho.below ga).mono ga.size⟩
  · exact h'.dev x hx
theorem St.cell {w0 : World} {L : List (Nat × Option Addr × List Zn × Nat)} {l2 c2 : Nat} {a2 : Option Addr} {w : World} (h : St w0 L l2 c2 a2 w) (X : Nat) (b : Option Addr) (V : List Zn) (c : Nat) (hx : (X, b, V, c) ∈ L) : w.cell? ⟨X, 0, none⟩ = some (.slice b V.length c) :=
  (block_cell (h.dev _ hx).1).1
theorem St.zs {w0 : World} {L : List (Nat × Option Addr × List Zn × Nat)} {l2 c2 : Nat} {a2 : Option Addr} {w : World} (h : St w0 L l2 c2 a2 w) (X : Nat) (b : Option Addr) (V : List Zn) (c : Nat) (hx : (X, b, V, c) ∈ L) : Zs w.heap.size b V w :=
  (h.dev _ hx).2
theorem St.draw {w0 : World} {L : List (Nat × Option Addr × List Zn × Nat)} {l2 c2 : Nat} {a2 : Option Addr} {w : World} (h : St w0 L l2 c2 a2 w) : Code w.heap.size l2 c2 a2 w := h.code.mono h.below.size
theorem St.bare {w0 : World} {L : List (Nat × Option Addr × List Zn × Nat)} {l2 c2 : Nat} {a2 : Option Addr} {w : World} (h : St w0 L l2 c2 a2 w) : St w0 [] l2 c2 a2 w := ⟨h.below, h.code, fun _ hx => (by cases hx)⟩
theorem ext_all (x : ByteArray) : x.extract 0 (0 + x.size) = x := by
  apply ByteArray.ext
  simp
theorem ext_left (x y : ByteArray) : (x ++ y).extract 0 (0 + x.size) = x := by
  apply ByteArray.ext
  simp [ByteArray.data_extract, ByteArray.data_append, ← ByteArray.size_data]
theorem ext_right (x y : ByteArray) : (x ++ y).extract x.size (x.size + y.size) = y := by
  apply ByteArray.ext
  simp [ByteArray.data_extract, ByteArray.data_append, ← ByteArray.size_data]
theorem St.drew {w0 : World} {L : List (Nat × Option Addr × List Zn × Nat)} {l2 c2 : Nat} {a2 : Option Addr} {w : World} (h : St w0 L l2 c2 a2 w) : St w0 L l2 c2 a2 w.drew := h.on (Below.refl _ _).drew
end Go.Proofs.Yteofdaecknlkdaa
