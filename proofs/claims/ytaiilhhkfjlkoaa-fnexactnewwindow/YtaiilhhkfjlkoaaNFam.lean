/- Four rows of one's own that a region makes in whatever order. -/
import Derived.Test.YtaiilhhkfjlkoaaNFour
import Derived.Test.YtaiilhhkfjlkoaaNApp
namespace Go.Proofs.Ytaiilhhkfjlkoaa
set_option maxRecDepth 100000
open Go Go.RowKit
def Ds (x y : Value) : Prop := ∀ p q, x.ownBlock = some p → y.ownBlock = some q → p ≠ q
theorem Ds.symm {x y : Value} (h : Ds x y) : Ds y x := fun p q hp hq e => h q p hq hp e.symm
/-- a property of a value's own row: it stays while nothing that is there turns; its block is there -/
structure OwnP (P : World → Value → Prop) : Prop where
  mono : ∀ {v v' x}, P v x → Below v.heap.size v v' → P v' x
  lt : ∀ {v x}, P v x → ∀ k, x.ownBlock = some k → k < v.heap.size
theorem ownP_row (lo : Nat) (e : TypeId) (s n : Nat) (xs : List Value) : OwnP (fun v x => v.ownsRow lo e s x n xs) := ⟨fun h g => rw_below h g, fun h k hk => (h.lt k hk).2⟩
structure Fam4 (G : World → Prop) (P1 P2 P3 P4 : World → Value → Prop) (b1 b2 b3 b4 : Bool) (x1 x2 x3 x4 : Value) (v : World) : Prop where
  g : G v
  p1 : b1 = true → P1 v x1
  p2 : b2 = true → P2 v x2
  p3 : b3 = true → P3 v x3
  p4 : b4 = true → P4 v x4
  d12 : b1 = true → b2 = true → Ds x1 x2
  d13 : b1 = true → b3 = true → Ds x1 x3
  d14 : b1 = true → b4 = true → Ds x1 x4
  d23 : b2 = true → b3 = true → Ds x2 x3
  d24 : b2 = true → b4 = true → Ds x2 x4
  d34 : b3 = true → b4 = true → Ds x3 x4
theorem Fam4.s1 {G : World → Prop} {P1 P2 P3 P4 : World → Value → Prop} (_o1 : OwnP P1) (o2 : OwnP P2) (o3 : OwnP P3) (o4 : OwnP P4) {b2 b3 b4 : Bool} {x1 x2 x3 x4 y : Value} {v v' : World} (h : Fam4 G P1 P2 P3 P4 false b2 b3 b4 x1 x2 x3 x4 v) (hb : Below v.heap.size v v') (hg : G v') (hy : P1 v' y) (hn : ∀ k, y.ownBlock = some k → v.heap.size ≤ k) : Fam4 G P1 P2 P3 P4 true b2 b3 b4 y x2 x3 x4 v' := by
  exact ⟨hg, fun _ => hy, fun h1 => o2.mono (h.p2 h1) hb, fun h1 => o3.mono (h.p3 h1) hb, fun h1 => o4.mono (h.p4 h1) hb, (fun _ h2 p q hp hq => by have := hn p hp; have := o2.lt (h.p2 h2) q hq; omega), (fun _ h2 p q hp hq => by have := hn p hp; have := o3.lt (h.p3 h2) q hq; omega), (fun _ h2 p q hp hq => by have := hn p hp; have := o4.lt (h.p4 h2) q hq; omega), h.d23, h.d24, h.d34⟩
theorem Fam4.s2 {G : World → Prop} {P1 P2 P3 P4 : World → Value → Prop} (o1 : OwnP P1) (_o2 : OwnP P2) (o3 : OwnP P3) (o4 : OwnP P4) {b1 b3 b4 : Bool} {x1 x2 x3 x4 y : Value} {v v' : World} (h : Fam4 G P1 P2 P3 P4 b1 false b3 b4 x1 x2 x3 x4 v) (hb : Below v.heap.size v v') (hg : G v') (hy : P2 v' y) (hn : ∀ k, y.ownBlock = some k → v.heap.size ≤ k) : Fam4 G P1 P2 P3 P4 b1 true b3 b4 x1 y x3 x4 v' := by
  exact ⟨hg, fun h1 => o1.mono (h.p1 h1) hb, fun _ => hy, fun h1 => o3.mono (h.p3 h1) hb, fun h1 => o4.mono (h.p4 h1) hb, (fun h1 _ p q hp hq => by have := hn q hq; have := o1.lt (h.p1 h1) p hp; omega), h.d13, h.d14, (fun _ h2 p q hp hq => by have := hn p hp; have := o3.lt (h.p3 h2) q hq; omega), (fun _ h2 p q hp hq => by have := hn p hp; have := o4.lt (h.p4 h2) q hq; omega), h.d34⟩
theorem Fam4.s3 {G : World → Prop} {P1 P2 P3 P4 : World → Value → Prop} (o1 : OwnP P1) (o2 : OwnP P2) (_o3 : OwnP P3) (o4 : OwnP P4) {b1 b2 b4 : Bool} {x1 x2 x3 x4 y : Value} {v v' : World} (h : Fam4 G P1 P2 P3 P4 b1 b2 false b4 x1 x2 x3 x4 v) (hb : Below v.heap.size v v') (hg : G v') (hy : P3 v' y) (hn : ∀ k, y.ownBlock = some k → v.heap.size ≤ k) : Fam4 G P1 P2 P3 P4 b1 b2 true b4 x1 x2 y x4 v' := by
  exact ⟨hg, fun h1 => o1.mono (h.p1 h1) hb, fun h1 => o2.mono (h.p2 h1) hb, fun _ => hy, fun h1 => o4.mono (h.p4 h1) hb, h.d12, (fun h1 _ p q hp hq => by have := hn q hq; have := o1.lt (h.p1 h1) p hp; omega), h.d14, (fun h1 _ p q hp hq => by have := hn q hq; have := o2.lt (h.p2 h1) p hp; omega), h.d24, (fun _ h2 p q hp hq => by have := hn p hp; have := o4.lt (h.p4 h2) q hq; omega)⟩
theorem Fam4.s4 {G : World → Prop} {P1 P2 P3 P4 : World → Value → Prop} (o1 : OwnP P1) (o2 : OwnP P2) (o3 : OwnP P3) (_o4 : OwnP P4) {b1 b2 b3 : Bool} {x1 x2 x3 x4 y : Value} {v v' : World} (h : Fam4 G P1 P2 P3 P4 b1 b2 b3 false x1 x2 x3 x4 v) (hb : Below v.heap.size v v') (hg : G v') (hy : P4 v' y) (hn : ∀ k, y.ownBlock = some k → v.heap.size ≤ k) : Fam4 G P1 P2 P3 P4 b1 b2 b3 true x1 x2 x3 y v' := by
  exact ⟨hg, fun h1 => o1.mono (h.p1 h1) hb, fun h1 => o2.mono (h.p2 h1) hb, fun h1 => o3.mono (h.p3 h1) hb, fun _ => hy, h.d12, h.d13, (fun h1 _ p q hp hq => by have := hn q hq; have := o1.lt (h.p1 h1) p hp; omega), h.d23, (fun h1 _ p q hp hq => by have := hn q hq; have := o2.lt (h.p2 h1) p hp; omega), (fun h1 _ p q hp hq => by have := hn q hq; have := o3.lt (h.p3 h1) p hp; omega)⟩
theorem wpAny_fam4 {P : Program} {ops : Array Oper} {Q : Exit → Act → World → Prop} {md : Region.Mode} (L : Bool → Bool → Bool → Bool → Array Bool) (F : Value → Value → Value → Value → Act)
    (G : World → Prop) (P1 P2 P3 P4 : World → Value → Prop) (o1 : OwnP P1) (o2 : OwnP P2) (o3 : OwnP P3) (o4 : OwnP P4) (i1 i2 i3 i4 n0 : Nat)
    (hr : ∀ b1 b2 b3 b4, (b1 && b2 && b3 && b4) = false → (Region.ready md ops (L b1 b2 b3 b4)).isEmpty = false ∧ (Region.ready md ops (L b1 b2 b3 b4)).all (fun j => (j == i1 && !b1) || (j == i2 && !b2) || (j == i3 && !b3) || (j == i4 && !b4)) = true)
    (s1 : ∀ b1 b2 b3 b4, (L b1 b2 b3 b4).setIfInBounds i1 true = L true b2 b3 b4) (s2 : ∀ b1 b2 b3 b4, (L b1 b2 b3 b4).setIfInBounds i2 true = L b1 true b3 b4)
    (s3 : ∀ b1 b2 b3 b4, (L b1 b2 b3 b4).setIfInBounds i3 true = L b1 b2 true b4) (s4 : ∀ b1 b2 b3 b4, (L b1 b2 b3 b4).setIfInBounds i4 true = L b1 b2 b3 true)
    (h1 : ∀ x1 x2 x3 x4 v, G v → wpOp P ops Q i1 (fun a u => ∃ y, a = F y x2 x3 x4 ∧ Below v.heap.size v u ∧ G u ∧ P1 u y ∧ ∀ k, y.ownBlock = some k → v.heap.size ≤ k) (F x1 x2 x3 x4) v)
    (h2 : ∀ x1 x2 x3 x4 v, G v → wpOp P ops Q i2 (fun a u => ∃ y, a = F x1 y x3 x4 ∧ Below v.heap.size v u ∧ G u ∧ P2 u y ∧ ∀ k, y.ownBlock = some k → v.heap.size ≤ k) (F x1 x2 x3 x4) v)
    (h3 : ∀ x1 x2 x3 x4 v, G v → wpOp P ops Q i3 (fun a u => ∃ y, a = F x1 x2 y x4 ∧ Below v.heap.size v u ∧ G u ∧ P3 u y ∧ ∀ k, y.ownBlock = some k → v.heap.size ≤ k) (F x1 x2 x3 x4) v)
    (h4 : ∀ x1 x2 x3 x4 v, G v → wpOp P ops Q i4 (fun a u => ∃ y, a = F x1 x2 x3 y ∧ Below v.heap.size v u ∧ G u ∧ P4 u y ∧ ∀ k, y.ownBlock = some k → v.heap.size ≤ k) (F x1 x2 x3 x4) v)
    (hend : ∀ x1 x2 x3 x4 v, G v → P1 v x1 → P2 v x2 → P3 v x3 → P4 v x4 → Ds x1 x2 → Ds x1 x3 → Ds x1 x4 → Ds x2 x3 → Ds x2 x4 → Ds x3 x4 → wpAny P md ops Q n0 (L true true true true) (F x1 x2 x3 x4) v)
    (x1 x2 x3 x4 : Value) (v : World) (hv : G v) : wpAny P md ops Q (n0 + 4) (L false false false false) (F x1 x2 x3 x4) v := by
  refine wpAny_four L F (Fam4 G P1 P2 P3 P4) i1 i2 i3 i4 n0 hr s1 s2 s3 s4 ?_ ?_ ?_ ?_ ?_ 4 false false false false x1 x2 x3 x4 v rfl ⟨hv, (fun h => by cases h), (fun h => by cases h), (fun h => by cases h), (fun h => by cases h), (fun h => by cases h), (fun h => by cases h), (fun h => by cases h), (fun h => by cases h), (fun h => by cases h), (fun h => by cases h)⟩
  · intro b2 b3 b4 x1 x2 x3 x4 w hI
    refine wpOp_mono (fun a u h => ?_) (h1 x1 x2 x3 x4 w hI.g)
    obtain ⟨y, rfl, h1, h2, h3, h4⟩ := h
    exact ⟨y, rfl, hI.s1 o1 o2 o3 o4 h1 h2 h3 h4⟩
  · intro b1 b3 b4 x1 x2 x3 x4 w hI
    refine wpOp_mono (fun a u h => ?_) (h2 x1 x2 x3 x4 w hI.g)
    obtain ⟨y, rfl, h1, h2, h3, h4⟩ := h
    exact ⟨y, rfl, hI.s2 o1 o2 o3 o4 h1 h2 h3 h4⟩
  · intro b1 b2 b4 x1 x2 x3 x4 w hI
    refine wpOp_mono (fun a u h => ?_) (h3 x1 x2 x3 x4 w hI.g)
    obtain ⟨y, rfl, h1, h2, h3, h4⟩ := h
    exact ⟨y, rfl, hI.s3 o1 o2 o3 o4 h1 h2 h3 h4⟩
  · intro b1 b2 b3 x1 x2 x3 x4 w hI
    refine wpOp_mono (fun a u h => ?_) (h4 x1 x2 x3 x4 w hI.g)
    obtain ⟨y, rfl, h1, h2, h3, h4⟩ := h
    exact ⟨y, rfl, hI.s4 o1 o2 o3 o4 h1 h2 h3 h4⟩
  · intro x1 x2 x3 x4 w hI
    exact hend x1 x2 x3 x4 w hI.g (hI.p1 rfl) (hI.p2 rfl) (hI.p3 rfl) (hI.p4 rfl) (hI.d12 rfl rfl) (hI.d13 rfl rfl) (hI.d14 rfl rfl) (hI.d23 rfl rfl) (hI.d24 rfl rfl) (hI.d34 rfl rfl)
end Go.Proofs.Ytaiilhhkfjlkoaa
