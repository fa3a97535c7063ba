/- Rows of one's own that a region makes in whatever order. -/
import Derived.Test.YtikmkkklgdkpaaaFcR
import Derived.RegionTactic
namespace Go.Proofs.Ytikmkkklgdkpaaa
set_option maxRecDepth 100000
open Go Go.ChangeShapes Go.WideShapes Go.ChangeAt Go.RowKit
def rem4 (b1 b2 b3 b4 : Bool) : Nat := (cond b1 0 1) + (cond b2 0 1) + (cond b3 0 1) + (cond b4 0 1)
theorem rem4_zero {b1 b2 b3 b4 : Bool} (h : rem4 b1 b2 b3 b4 = 0) : b1 = true ∧ b2 = true ∧ b3 = true ∧ b4 = true := by
  revert h; cases b1 <;> cases b2 <;> cases b3 <;> cases b4 <;> decide
theorem rem4_some {b1 b2 b3 b4 : Bool} {k : Nat} (h : rem4 b1 b2 b3 b4 = k + 1) : (b1 && b2 && b3 && b4) = false := by
  cases b1 <;> cases b2 <;> cases b3 <;> cases b4 <;> first | rfl | (exact absurd h (by show ¬ (0 = k + 1); omega))
theorem rem4_1 {b2 b3 b4 : Bool} {k : Nat} (h : rem4 false b2 b3 b4 = k + 1) : rem4 true b2 b3 b4 = k := by unfold rem4 at *; simp only [cond_false, cond_true] at *; omega
theorem rem4_2 {b1 b3 b4 : Bool} {k : Nat} (h : rem4 b1 false b3 b4 = k + 1) : rem4 b1 true b3 b4 = k := by unfold rem4 at *; simp only [cond_false, cond_true] at *; omega
theorem rem4_3 {b1 b2 b4 : Bool} {k : Nat} (h : rem4 b1 b2 false b4 = k + 1) : rem4 b1 b2 true b4 = k := by unfold rem4 at *; simp only [cond_false, cond_true] at *; omega
theorem rem4_4 {b1 b2 b3 : Bool} {k : Nat} (h : rem4 b1 b2 b3 false = k + 1) : rem4 b1 b2 b3 true = k := by unfold rem4 at *; simp only [cond_false, cond_true] at *; omega
theorem wpAny_four {P : Program} {ops : Array Oper} {Q : Exit → Act → World → Prop} {md : Region.Mode} (L : Bool → Bool → Bool → Bool → Array Bool) (F : Value → Value → Value → Value → Act)
    (I : Bool → Bool → Bool → Bool → Value → Value → Value → Value → World → Prop) (i1 i2 i3 i4 n0 : Nat)
    (hr : ∀ b1 b2 b3 b4, (b1 && b2 && b3 && b4) = false → (Region.ready md ops (L b1 b2 b3 b4)).isEmpty = false ∧ (Region.ready md ops (L b1 b2 b3 b4)).all (fun j => (j == i1 && !b1) || (j == i2 && !b2) || (j == i3 && !b3) || (j == i4 && !b4)) = true)
    (s1 : ∀ b1 b2 b3 b4, (L b1 b2 b3 b4).setIfInBounds i1 true = L true b2 b3 b4) (s2 : ∀ b1 b2 b3 b4, (L b1 b2 b3 b4).setIfInBounds i2 true = L b1 true b3 b4)
    (s3 : ∀ b1 b2 b3 b4, (L b1 b2 b3 b4).setIfInBounds i3 true = L b1 b2 true b4) (s4 : ∀ b1 b2 b3 b4, (L b1 b2 b3 b4).setIfInBounds i4 true = L b1 b2 b3 true)
    (h1 : ∀ b2 b3 b4 x1 x2 x3 x4 w, I false b2 b3 b4 x1 x2 x3 x4 w → wpOp P ops Q i1 (fun a u => ∃ y, a = F y x2 x3 x4 ∧ I true b2 b3 b4 y x2 x3 x4 u) (F x1 x2 x3 x4) w)
    (h2 : ∀ b1 b3 b4 x1 x2 x3 x4 w, I b1 false b3 b4 x1 x2 x3 x4 w → wpOp P ops Q i2 (fun a u => ∃ y, a = F x1 y x3 x4 ∧ I b1 true b3 b4 x1 y x3 x4 u) (F x1 x2 x3 x4) w)
    (h3 : ∀ b1 b2 b4 x1 x2 x3 x4 w, I b1 b2 false b4 x1 x2 x3 x4 w → wpOp P ops Q i3 (fun a u => ∃ y, a = F x1 x2 y x4 ∧ I b1 b2 true b4 x1 x2 y x4 u) (F x1 x2 x3 x4) w)
    (h4 : ∀ b1 b2 b3 x1 x2 x3 x4 w, I b1 b2 b3 false x1 x2 x3 x4 w → wpOp P ops Q i4 (fun a u => ∃ y, a = F x1 x2 x3 y ∧ I b1 b2 b3 true x1 x2 x3 y u) (F x1 x2 x3 x4) w)
    (hend : ∀ x1 x2 x3 x4 w, I true true true true x1 x2 x3 x4 w → wpAny P md ops Q n0 (L true true true true) (F x1 x2 x3 x4) w) :
    ∀ k b1 b2 b3 b4 x1 x2 x3 x4 w, rem4 b1 b2 b3 b4 = k → I b1 b2 b3 b4 x1 x2 x3 x4 w → wpAny P md ops Q (n0 + k) (L b1 b2 b3 b4) (F x1 x2 x3 x4) w := by
  intro k
  induction k with
  | zero =>
    intro b1 b2 b3 b4 x1 x2 x3 x4 w hk hI
    obtain ⟨e1, e2, e3, e4⟩ := rem4_zero hk
    subst e1 e2 e3 e4
    exact hend x1 x2 x3 x4 w hI
  | succ k ih =>
    intro b1 b2 b3 b4 x1 x2 x3 x4 w hk hI
    have hn := rem4_some hk
    obtain ⟨r1, r2⟩ := hr b1 b2 b3 b4 hn
    refine ⟨fun h0 => ?_, fun j hj => ?_⟩
    · rw [h0] at r1; cases r1
    have hj2 := List.all_eq_true.1 r2 j hj
    simp only [Bool.or_eq_true, Bool.and_eq_true, beq_iff_eq, Bool.not_eq_true'] at hj2
    rcases hj2 with ((⟨rfl, rfl⟩ | ⟨rfl, rfl⟩) | ⟨rfl, rfl⟩) | ⟨rfl, rfl⟩
    · refine wpOp_mono (fun a u h => ?_) (h1 b2 b3 b4 x1 x2 x3 x4 w hI)
      obtain ⟨y, rfl, hy⟩ := h
      rw [s1]
      exact ih true b2 b3 b4 y x2 x3 x4 u (rem4_1 hk) hy
    · refine wpOp_mono (fun a u h => ?_) (h2 b1 b3 b4 x1 x2 x3 x4 w hI)
      obtain ⟨y, rfl, hy⟩ := h
      rw [s2]
      exact ih b1 true b3 b4 x1 y x3 x4 u (rem4_2 hk) hy
    · refine wpOp_mono (fun a u h => ?_) (h3 b1 b2 b4 x1 x2 x3 x4 w hI)
      obtain ⟨y, rfl, hy⟩ := h
      rw [s3]
      exact ih b1 b2 true b4 x1 x2 y x4 u (rem4_3 hk) hy
    · refine wpOp_mono (fun a u h => ?_) (h4 b1 b2 b3 x1 x2 x3 x4 w hI)
      obtain ⟨y, rfl, hy⟩ := h
      rw [s4]
      exact ih b1 b2 b3 true x1 x2 x3 y u (rem4_4 hk) hy
def Ds (x y : Value) : Prop := ∀ p q, x.ownBlock = some p → y.ownBlock = some q → p ≠ q
theorem Ds.symm {x y : Value} (h : Ds x y) : Ds y x := fun p q hp hq e => h q p hq hp e.symm
/-- a property of a value's own row: it stays while nothing that is there turns; its block is there -/
structure OwnPr (P : World → Value → Prop) : Prop where
  mono : ∀ {v v' x}, P v x → Below v.heap.size v v' → P v' x
  lt : ∀ {v x}, P v x → ∀ k, x.ownBlock = some k → k < v.heap.size
theorem ownPr_row (lo : Nat) (e : TypeId) (s n : Nat) (xs : List Value) : OwnPr (fun v x => v.ownsRow lo e s x n xs) := ⟨fun h g => rw_below h g, fun h k hk => (h.lt k hk).2⟩
structure Fam4 (G : World → Prop) (P1 P2 P3 P4 : World → Value → Prop) (b1 b2 b3 b4 : Bool) (x1 x2 x3 x4 : Value) (v : World) : Prop where
  g : G v
  p1 : b1 = true → P1 v x1
  p2 : b2 = true → P2 v x2
  p3 : b3 = true → P3 v x3
  p4 : b4 = true → P4 v x4
  d12 : b1 = true → b2 = true → Ds x1 x2
  d13 : b1 = true → b3 = true → Ds x1 x3
  d14 : b1 = true → b4 = true → Ds x1 x4
  d23 : b2 = true → b3 = true → Ds x2 x3
  d24 : b2 = true → b4 = true → Ds x2 x4
  d34 : b3 = true → b4 = true → Ds x3 x4
theorem Fam4.s1 {G : World → Prop} {P1 P2 P3 P4 : World → Value → Prop} (_o1 : OwnPr P1) (o2 : OwnPr P2) (o3 : OwnPr P3) (o4 : OwnPr P4) {b2 b3 b4 : Bool} {x1 x2 x3 x4 y : Value} {v v' : World} (h : Fam4 G P1 P2 P3 P4 false b2 b3 b4 x1 x2 x3 x4 v) (hb : Below v.heap.size v v') (hg : G v') (hy : P1 v' y) (hn : ∀ k, y.ownBlock = some k → v.heap.size ≤ k) : Fam4 G P1 P2 P3 P4 true b2 b3 b4 y x2 x3 x4 v' := by
  exact ⟨hg, fun _ => hy, fun h1 => o2.mono (h.p2 h1) hb, fun h1 => o3.mono (h.p3 h1) hb, fun h1 => o4.mono (h.p4 h1) hb, (fun _ h2 p q hp hq => by have := hn p hp; have := o2.lt (h.p2 h2) q hq; omega), (fun _ h2 p q hp hq => by have := hn p hp; have := o3.lt (h.p3 h2) q hq; omega), (fun _ h2 p q hp hq => by have := hn p hp; have := o4.lt (h.p4 h2) q hq; omega), h.d23, h.d24, h.d34⟩
theorem Fam4.s2 {G : World → Prop} {P1 P2 P3 P4 : World → Value → Prop} (o1 : OwnPr P1) (_o2 : OwnPr P2) (o3 : OwnPr P3) (o4 : OwnPr P4) {b1 b3 b4 : Bool} {x1 x2 x3 x4 y : Value} {v v' : World} (h : Fam4 G P1 P2 P3 P4 b1 false b3 b4 x1 x2 x3 x4 v) (hb : Below v.heap.size v v') (hg : G v') (hy : P2 v' y) (hn : ∀ k, y.ownBlock = some k → v.heap.size ≤ k) : Fam4 G P1 P2 P3 P4 b1 true b3 b4 x1 y x3 x4 v' := by
  exact ⟨hg, fun h1 => o1.mono (h.p1 h1) hb, fun _ => hy, fun h1 => o3.mono (h.p3 h1) hb, fun h1 => o4.mono (h.p4 h1) hb, (fun h1 _ p q hp hq => by have := hn q hq; have := o1.lt (h.p1 h1) p hp; omega), h.d13, h.d14, (fun _ h2 p q hp hq => by have := hn p hp; have := o3.lt (h.p3 h2) q hq; omega), (fun _ h2 p q hp hq => by have := hn p hp; have := o4.lt (h.p4 h2) q hq; omega), h.d34⟩
theorem Fam4.s3 {G : World → Prop} {P1 P2 P3 P4 : World → Value → Prop} (o1 : OwnPr P1) (o2 : OwnPr P2) (_o3 : OwnPr P3) (o4 : OwnPr P4) {b1 b2 b4 : Bool} {x1 x2 x3 x4 y : Value} {v v' : World} (h : Fam4 G P1 P2 P3 P4 b1 b2 false b4 x1 x2 x3 x4 v) (hb : Below v.heap.size v v') (hg : G v') (hy : P3 v' y) (hn : ∀ k, y.ownBlock = some k → v.heap.size ≤ k) : Fam4 G P1 P2 P3 P4 b1 b2 true b4 x1 x2 y x4 v' := by
  exact ⟨hg, fun h1 => o1.mono (h.p1 h1) hb, fun h1 => o2.mono (h.p2 h1) hb, fun _ => hy, fun h1 => o4.mono (h.p4 h1) hb, h.d12, (fun h1 _ p q hp hq => by have := hn q hq; have := o1.lt (h.p1 h1) p hp; omega), h.d14, (fun h1 _ p q hp hq => by have := hn q hq; have := o2.lt (h.p2 h1) p hp; omega), h.d24, (fun _ h2 p q hp hq => by have := hn p hp; have := o4.lt (h.p4 h2) q hq; omega)⟩
theorem Fam4.s4 {G : World → Prop} {P1 P2 P3 P4 : World → Value → Prop} (o1 : OwnPr P1) (o2 : OwnPr P2) (o3 : OwnPr P3) (_o4 : OwnPr P4) {b1 b2 b3 : Bool} {x1 x2 x3 x4 y : Value} {v v' : World} (h : Fam4 G P1 P2 P3 P4 b1 b2 b3 false x1 x2 x3 x4 v) (hb : Below v.heap.size v v') (hg : G v') (hy : P4 v' y) (hn : ∀ k, y.ownBlock = some k → v.heap.size ≤ k) : Fam4 G P1 P2 P3 P4 b1 b2 b3 true x1 x2 x3 y v' := by
  exact ⟨hg, fun h1 => o1.mono (h.p1 h1) hb, fun h1 => o2.mono (h.p2 h1) hb, fun h1 => o3.mono (h.p3 h1) hb, fun _ => hy, h.d12, h.d13, (fun h1 _ p q hp hq => by have := hn q hq; have := o1.lt (h.p1 h1) p hp; omega), h.d23, (fun h1 _ p q hp hq => by have := hn q hq; have := o2.lt (h.p2 h1) p hp; omega), (fun h1 _ p q hp hq => by have := hn q hq; have := o3.lt (h.p3 h1) p hp; omega)⟩
theorem wpAny_fam4 {P : Program} {ops : Array Oper} {Q : Exit → Act → World → Prop} {md : Region.Mode} (L : Bool → Bool → Bool → Bool → Array Bool) (F : Value → Value → Value → Value → Act)
    (G : World → Prop) (P1 P2 P3 P4 : World → Value → Prop) (o1 : OwnPr P1) (o2 : OwnPr P2) (o3 : OwnPr P3) (o4 : OwnPr P4) (i1 i2 i3 i4 n0 : Nat)
    (hr : ∀ b1 b2 b3 b4, (b1 && b2 && b3 && b4) = false → (Region.ready md ops (L b1 b2 b3 b4)).isEmpty = false ∧ (Region.ready md ops (L b1 b2 b3 b4)).all (fun j => (j == i1 && !b1) || (j == i2 && !b2) || (j == i3 && !b3) || (j == i4 && !b4)) = true)
    (s1 : ∀ b1 b2 b3 b4, (L b1 b2 b3 b4).setIfInBounds i1 true = L true b2 b3 b4) (s2 : ∀ b1 b2 b3 b4, (L b1 b2 b3 b4).setIfInBounds i2 true = L b1 true b3 b4)
    (s3 : ∀ b1 b2 b3 b4, (L b1 b2 b3 b4).setIfInBounds i3 true = L b1 b2 true b4) (s4 : ∀ b1 b2 b3 b4, (L b1 b2 b3 b4).setIfInBounds i4 true = L b1 b2 b3 true)
    (h1 : ∀ x1 x2 x3 x4 v, G v → wpOp P ops Q i1 (fun a u => ∃ y, a = F y x2 x3 x4 ∧ Below v.heap.size v u ∧ G u ∧ P1 u y ∧ ∀ k, y.ownBlock = some k → v.heap.size ≤ k) (F x1 x2 x3 x4) v)
    (h2 : ∀ x1 x2 x3 x4 v, G v → wpOp P ops Q i2 (fun a u => ∃ y, a = F x1 y x3 x4 ∧ Below v.heap.size v u ∧ G u ∧ P2 u y ∧ ∀ k, y.ownBlock = some k → v.heap.size ≤ k) (F x1 x2 x3 x4) v)
    (h3 : ∀ x1 x2 x3 x4 v, G v → wpOp P ops Q i3 (fun a u => ∃ y, a = F x1 x2 y x4 ∧ Below v.heap.size v u ∧ G u ∧ P3 u y ∧ ∀ k, y.ownBlock = some k → v.heap.size ≤ k) (F x1 x2 x3 x4) v)
    (h4 : ∀ x1 x2 x3 x4 v, G v → wpOp P ops Q i4 (fun a u => ∃ y, a = F x1 x2 x3 y ∧ Below v.heap.size v u ∧ G u ∧ P4 u y ∧ ∀ k, y.ownBlock = some k → v.heap.size ≤ k) (F x1 x2 x3 x4) v)
    (hend : ∀ x1 x2 x3 x4 v, G v → P1 v x1 → P2 v x2 → P3 v x3 → P4 v x4 → Ds x1 x2 → Ds x1 x3 → Ds x1 x4 → Ds x2 x3 → Ds x2 x4 → Ds x3 x4 → wpAny P md ops Q n0 (L true true true true) (F x1 x2 x3 x4) v)
    (x1 x2 x3 x4 : Value) (v : World) (hv : G v) : wpAny P md ops Q (n0 + 4) (L false false false false) (F x1 x2 x3 x4) v := by
  refine wpAny_four L F (Fam4 G P1 P2 P3 P4) i1 i2 i3 i4 n0 hr s1 s2 s3 s4 ?_ ?_ ?_ ?_ ?_ 4 false false false false x1 x2 x3 x4 v rfl ⟨hv, (fun h => by cases h), (fun h => by cases h), (fun h => by cases h), (fun h => by cases h), (fun h => by cases h), (fun h => by cases h), (fun h => by cases h), (fun h => by cases h), (fun h => by cases h), (fun h => by cases h)⟩
  · intro b2 b3 b4 x1 x2 x3 x4 w hI
    refine wpOp_mono (fun a u h => ?_) (h1 x1 x2 x3 x4 w hI.g)
    obtain ⟨y, rfl, h1, h2, h3, h4⟩ := h
    exact ⟨y, rfl, hI.s1 o1 o2 o3 o4 h1 h2 h3 h4⟩
  · intro b1 b3 b4 x1 x2 x3 x4 w hI
    refine wpOp_mono (fun a u h => ?_) (h2 x1 x2 x3 x4 w hI.g)
    obtain ⟨y, rfl, h1, h2, h3, h4⟩ := h
    exact ⟨y, rfl, hI.s2 o1 o2 o3 o4 h1 h2 h3 h4⟩
  · intro b1 b2 b4 x1 x2 x3 x4 w hI
    refine wpOp_mono (fun a u h => ?_) (h3 x1 x2 x3 x4 w hI.g)
    obtain ⟨y, rfl, h1, h2, h3, h4⟩ := h
    exact ⟨y, rfl, hI.s3 o1 o2 o3 o4 h1 h2 h3 h4⟩
  · intro b1 b2 b3 x1 x2 x3 x4 w hI
    refine wpOp_mono (fun a u h => ?_) (h4 x1 x2 x3 x4 w hI.g)
    obtain ⟨y, rfl, h1, h2, h3, h4⟩ := h
    exact ⟨y, rfl, hI.s4 o1 o2 o3 o4 h1 h2 h3 h4⟩
  · intro x1 x2 x3 x4 w hI
    exact hend x1 x2 x3 x4 w hI.g (hI.p1 rfl) (hI.p2 rfl) (hI.p3 rfl) (hI.p4 rfl) (hI.d12 rfl rfl) (hI.d13 rfl rfl) (hI.d14 rfl rfl) (hI.d23 rfl rfl) (hI.d24 rfl rfl) (hI.d34 rfl rfl)
def rem5 (b0 b1 b2 b3 b4 : Bool) : Nat := (cond b0 0 1) + (cond b1 0 1) + (cond b2 0 1) + (cond b3 0 1) + (cond b4 0 1)
theorem rem5_zero {b0 b1 b2 b3 b4 : Bool} (h : rem5 b0 b1 b2 b3 b4 = 0) : b0 = true ∧ b1 = true ∧ b2 = true ∧ b3 = true ∧ b4 = true := by
  revert h; cases b0 <;> cases b1 <;> cases b2 <;> cases b3 <;> cases b4 <;> decide
theorem rem5_some {b0 b1 b2 b3 b4 : Bool} {k : Nat} (h : rem5 b0 b1 b2 b3 b4 = k + 1) : (b0 && b1 && b2 && b3 && b4) = false := by
  cases b0 <;> cases b1 <;> cases b2 <;> cases b3 <;> cases b4 <;> first | rfl | (exact absurd h (by show ¬ (0 = k + 1); omega))
theorem rem5_0 {b1 b2 b3 b4 : Bool} {k : Nat} (h : rem5 false b1 b2 b3 b4 = k + 1) : rem5 true b1 b2 b3 b4 = k := by unfold rem5 at *; simp only [cond_false, cond_true] at *; omega
theorem rem5_1 {b0 b2 b3 b4 : Bool} {k : Nat} (h : rem5 b0 false b2 b3 b4 = k + 1) : rem5 b0 true b2 b3 b4 = k := by unfold rem5 at *; simp only [cond_false, cond_true] at *; omega
theorem rem5_2 {b0 b1 b3 b4 : Bool} {k : Nat} (h : rem5 b0 b1 false b3 b4 = k + 1) : rem5 b0 b1 true b3 b4 = k := by unfold rem5 at *; simp only [cond_false, cond_true] at *; omega
theorem rem5_3 {b0 b1 b2 b4 : Bool} {k : Nat} (h : rem5 b0 b1 b2 false b4 = k + 1) : rem5 b0 b1 b2 true b4 = k := by unfold rem5 at *; simp only [cond_false, cond_true] at *; omega
theorem rem5_4 {b0 b1 b2 b3 : Bool} {k : Nat} (h : rem5 b0 b1 b2 b3 false = k + 1) : rem5 b0 b1 b2 b3 true = k := by unfold rem5 at *; simp only [cond_false, cond_true] at *; omega
theorem wpAny_five {P : Program} {ops : Array Oper} {Q : Exit → Act → World → Prop} {md : Region.Mode} (L : Bool → Bool → Bool → Bool → Bool → Array Bool) (F : Value → Value → Value → Value → Value → Act)
    (I : Bool → Bool → Bool → Bool → Bool → Value → Value → Value → Value → Value → World → Prop) (i0 i1 i2 i3 i4 n0 : Nat)
    (hr : ∀ b0 b1 b2 b3 b4, (b0 && b1 && b2 && b3 && b4) = false → (!b1 || b0) = true → (Region.ready md ops (L b0 b1 b2 b3 b4)).isEmpty = false ∧ (Region.ready md ops (L b0 b1 b2 b3 b4)).all (fun j => (j == i0 && !b0) || (j == i1 && b0 && !b1) || (j == i2 && !b2) || (j == i3 && !b3) || (j == i4 && !b4)) = true)
    (s0 : ∀ b0 b1 b2 b3 b4, (L b0 b1 b2 b3 b4).setIfInBounds i0 true = L true b1 b2 b3 b4) (s1 : ∀ b0 b1 b2 b3 b4, (L b0 b1 b2 b3 b4).setIfInBounds i1 true = L b0 true b2 b3 b4) (s2 : ∀ b0 b1 b2 b3 b4, (L b0 b1 b2 b3 b4).setIfInBounds i2 true = L b0 b1 true b3 b4) (s3 : ∀ b0 b1 b2 b3 b4, (L b0 b1 b2 b3 b4).setIfInBounds i3 true = L b0 b1 b2 true b4) (s4 : ∀ b0 b1 b2 b3 b4, (L b0 b1 b2 b3 b4).setIfInBounds i4 true = L b0 b1 b2 b3 true)
    (h0 : ∀ b1 b2 b3 b4 x0 x1 x2 x3 x4 w, (!b1 || false) = true → I false b1 b2 b3 b4 x0 x1 x2 x3 x4 w → wpOp P ops Q i0 (fun a u => ∃ y, a = F y x1 x2 x3 x4 ∧ I true b1 b2 b3 b4 y x1 x2 x3 x4 u) (F x0 x1 x2 x3 x4) w)
    (h1 : ∀ b2 b3 b4 x0 x1 x2 x3 x4 w, (!false || true) = true → I true false b2 b3 b4 x0 x1 x2 x3 x4 w → wpOp P ops Q i1 (fun a u => ∃ y, a = F x0 y x2 x3 x4 ∧ I true true b2 b3 b4 x0 y x2 x3 x4 u) (F x0 x1 x2 x3 x4) w)
    (h2 : ∀ b0 b1 b3 b4 x0 x1 x2 x3 x4 w, (!b1 || b0) = true → I b0 b1 false b3 b4 x0 x1 x2 x3 x4 w → wpOp P ops Q i2 (fun a u => ∃ y, a = F x0 x1 y x3 x4 ∧ I b0 b1 true b3 b4 x0 x1 y x3 x4 u) (F x0 x1 x2 x3 x4) w)
    (h3 : ∀ b0 b1 b2 b4 x0 x1 x2 x3 x4 w, (!b1 || b0) = true → I b0 b1 b2 false b4 x0 x1 x2 x3 x4 w → wpOp P ops Q i3 (fun a u => ∃ y, a = F x0 x1 x2 y x4 ∧ I b0 b1 b2 true b4 x0 x1 x2 y x4 u) (F x0 x1 x2 x3 x4) w)
    (h4 : ∀ b0 b1 b2 b3 x0 x1 x2 x3 x4 w, (!b1 || b0) = true → I b0 b1 b2 b3 false x0 x1 x2 x3 x4 w → wpOp P ops Q i4 (fun a u => ∃ y, a = F x0 x1 x2 x3 y ∧ I b0 b1 b2 b3 true x0 x1 x2 x3 y u) (F x0 x1 x2 x3 x4) w)
    (hend : ∀ x0 x1 x2 x3 x4 w, I true true true true true x0 x1 x2 x3 x4 w → wpAny P md ops Q n0 (L true true true true true) (F x0 x1 x2 x3 x4) w) :
    ∀ k b0 b1 b2 b3 b4 x0 x1 x2 x3 x4 w, rem5 b0 b1 b2 b3 b4 = k → (!b1 || b0) = true → I b0 b1 b2 b3 b4 x0 x1 x2 x3 x4 w → wpAny P md ops Q (n0 + k) (L b0 b1 b2 b3 b4) (F x0 x1 x2 x3 x4) w := by
  intro k
  induction k with
  | zero =>
    intro b0 b1 b2 b3 b4 x0 x1 x2 x3 x4 w hk _ hI
    obtain ⟨e0, e1, e2, e3, e4⟩ := rem5_zero hk
    subst e0 e1 e2 e3 e4
    exact hend x0 x1 x2 x3 x4 w hI
  | succ k ih =>
    intro b0 b1 b2 b3 b4 x0 x1 x2 x3 x4 w hk hd hI
    obtain ⟨r1, r2⟩ := hr b0 b1 b2 b3 b4 (rem5_some hk) hd
    refine ⟨fun h0 => ?_, fun j hj => ?_⟩
    · rw [h0] at r1; cases r1
    have hj2 := List.all_eq_true.1 r2 j hj
    simp only [Bool.or_eq_true, Bool.and_eq_true, beq_iff_eq, Bool.not_eq_true'] at hj2
    rcases hj2 with (((⟨rfl, rfl⟩ | ⟨⟨rfl, rfl⟩, rfl⟩) | ⟨rfl, rfl⟩) | ⟨rfl, rfl⟩) | ⟨rfl, rfl⟩
    · refine wpOp_mono (fun a u h => ?_) (h0 b1 b2 b3 b4 x0 x1 x2 x3 x4 w hd hI)
      obtain ⟨y, rfl, hy⟩ := h
      rw [s0]
      exact ih true b1 b2 b3 b4 y x1 x2 x3 x4 u (rem5_0 hk) (by first | exact hd | rfl | simp) hy
    · refine wpOp_mono (fun a u h => ?_) (h1 b2 b3 b4 x0 x1 x2 x3 x4 w hd hI)
      obtain ⟨y, rfl, hy⟩ := h
      rw [s1]
      exact ih true true b2 b3 b4 x0 y x2 x3 x4 u (rem5_1 hk) (by first | exact hd | rfl | simp) hy
    · refine wpOp_mono (fun a u h => ?_) (h2 b0 b1 b3 b4 x0 x1 x2 x3 x4 w hd hI)
      obtain ⟨y, rfl, hy⟩ := h
      rw [s2]
      exact ih b0 b1 true b3 b4 x0 x1 y x3 x4 u (rem5_2 hk) (by first | exact hd | rfl | simp) hy
    · refine wpOp_mono (fun a u h => ?_) (h3 b0 b1 b2 b4 x0 x1 x2 x3 x4 w hd hI)
      obtain ⟨y, rfl, hy⟩ := h
      rw [s3]
      exact ih b0 b1 b2 true b4 x0 x1 x2 y x4 u (rem5_3 hk) (by first | exact hd | rfl | simp) hy
    · refine wpOp_mono (fun a u h => ?_) (h4 b0 b1 b2 b3 x0 x1 x2 x3 x4 w hd hI)
      obtain ⟨y, rfl, hy⟩ := h
      rw [s4]
      exact ih b0 b1 b2 b3 true x0 x1 x2 x3 y u (rem5_4 hk) (by first | exact hd | rfl | simp) hy
/-- a property of a value's own row: it stays while its block stays; its block is there -/
structure OwnK (P : World → Value → Prop) : Prop where
  keep : ∀ {v v' x}, P v x → (∀ k, x.ownBlock = some k → v'.heap[k]? = v.heap[k]?) → P v' x
  lt : ∀ {v x}, P v x → ∀ k, x.ownBlock = some k → k < v.heap.size
theorem ownK_row (lo : Nat) (e : TypeId) (s n : Nat) (xs : List Value) : OwnK (fun v x => v.ownsRow lo e s x n xs) := ⟨fun h g => rw_keep h g, fun h k hk => (h.lt k hk).2⟩
structure Fam5 (G : World → Prop) (P0 P1 P2 P3 P4 : World → Value → Prop) (b0 b1 b2 b3 b4 : Bool) (x0 x1 x2 x3 x4 : Value) (v : World) : Prop where
  g : G v
  p0 : b0 = true → b1 = false → P0 v x0
  p1 : b1 = true → P1 v x1
  p2 : b2 = true → P2 v x2
  p3 : b3 = true → P3 v x3
  p4 : b4 = true → P4 v x4
  d02 : b0 = true → b1 = false → b2 = true → Ds x0 x2
  d03 : b0 = true → b1 = false → b3 = true → Ds x0 x3
  d04 : b0 = true → b1 = false → b4 = true → Ds x0 x4
  d12 : b1 = true → b2 = true → Ds x1 x2
  d13 : b1 = true → b3 = true → Ds x1 x3
  d14 : b1 = true → b4 = true → Ds x1 x4
  d23 : b2 = true → b3 = true → Ds x2 x3
  d24 : b2 = true → b4 = true → Ds x2 x4
  d34 : b3 = true → b4 = true → Ds x3 x4
theorem wpAny_fam5 {P : Program} {ops : Array Oper} {Q : Exit → Act → World → Prop} {md : Region.Mode} (L : Bool → Bool → Bool → Bool → Bool → Array Bool) (F : Value → Value → Value → Value → Value → Act)
    (G : World → Prop) (P0 P1 P2 P3 P4 : World → Value → Prop) (o0 : OwnK P0) (o1 : OwnK P1) (o2 : OwnK P2) (o3 : OwnK P3) (o4 : OwnK P4) (i0 i1 i2 i3 i4 n0 : Nat)
    (hr : ∀ b0 b1 b2 b3 b4, (b0 && b1 && b2 && b3 && b4) = false → (!b1 || b0) = true → (Region.ready md ops (L b0 b1 b2 b3 b4)).isEmpty = false ∧ (Region.ready md ops (L b0 b1 b2 b3 b4)).all (fun j => (j == i0 && !b0) || (j == i1 && b0 && !b1) || (j == i2 && !b2) || (j == i3 && !b3) || (j == i4 && !b4)) = true)
    (s0 : ∀ b0 b1 b2 b3 b4, (L b0 b1 b2 b3 b4).setIfInBounds i0 true = L true b1 b2 b3 b4) (s1 : ∀ b0 b1 b2 b3 b4, (L b0 b1 b2 b3 b4).setIfInBounds i1 true = L b0 true b2 b3 b4) (s2 : ∀ b0 b1 b2 b3 b4, (L b0 b1 b2 b3 b4).setIfInBounds i2 true = L b0 b1 true b3 b4) (s3 : ∀ b0 b1 b2 b3 b4, (L b0 b1 b2 b3 b4).setIfInBounds i3 true = L b0 b1 b2 true b4) (s4 : ∀ b0 b1 b2 b3 b4, (L b0 b1 b2 b3 b4).setIfInBounds i4 true = L b0 b1 b2 b3 true)
    (h0 : ∀ x0 x1 x2 x3 x4 v, G v → wpOp P ops Q i0 (fun a u => ∃ y, a = F y x1 x2 x3 x4 ∧ Below v.heap.size v u ∧ G u ∧ P0 u y ∧ (∀ k, y.ownBlock = some k → v.heap.size ≤ k)) (F x0 x1 x2 x3 x4) v)
    (h1 : ∀ x0 x1 x2 x3 x4 v, G v → P0 v x0 → wpOp P ops Q i1 (fun a u => ∃ y, a = F x0 y x2 x3 x4 ∧ (v.heap.size ≤ u.heap.size ∧ ∀ k, k < v.heap.size → x0.ownBlock ≠ some k → u.heap[k]? = v.heap[k]?) ∧ G u ∧ P1 u y ∧ (∀ k, y.ownBlock = some k → v.heap.size ≤ k ∨ x0.ownBlock = some k)) (F x0 x1 x2 x3 x4) v)
    (h2 : ∀ x0 x1 x2 x3 x4 v, G v → wpOp P ops Q i2 (fun a u => ∃ y, a = F x0 x1 y x3 x4 ∧ Below v.heap.size v u ∧ G u ∧ P2 u y ∧ (∀ k, y.ownBlock = some k → v.heap.size ≤ k)) (F x0 x1 x2 x3 x4) v)
    (h3 : ∀ x0 x1 x2 x3 x4 v, G v → wpOp P ops Q i3 (fun a u => ∃ y, a = F x0 x1 x2 y x4 ∧ Below v.heap.size v u ∧ G u ∧ P3 u y ∧ (∀ k, y.ownBlock = some k → v.heap.size ≤ k)) (F x0 x1 x2 x3 x4) v)
    (h4 : ∀ x0 x1 x2 x3 x4 v, G v → wpOp P ops Q i4 (fun a u => ∃ y, a = F x0 x1 x2 x3 y ∧ Below v.heap.size v u ∧ G u ∧ P4 u y ∧ (∀ k, y.ownBlock = some k → v.heap.size ≤ k)) (F x0 x1 x2 x3 x4) v)
    (hend : ∀ x0 x1 x2 x3 x4 v, G v → P1 v x1 → P2 v x2 → P3 v x3 → P4 v x4 → Ds x1 x2 → Ds x1 x3 → Ds x1 x4 → Ds x2 x3 → Ds x2 x4 → Ds x3 x4 → wpAny P md ops Q n0 (L true true true true true) (F x0 x1 x2 x3 x4) v)
    (x0 x1 x2 x3 x4 : Value) (v : World) (hv : G v) : wpAny P md ops Q (n0 + 5) (L false false false false false) (F x0 x1 x2 x3 x4) v := by
  refine wpAny_five L F (Fam5 G P0 P1 P2 P3 P4) i0 i1 i2 i3 i4 n0 hr s0 s1 s2 s3 s4 ?_ ?_ ?_ ?_ ?_ ?_ 5 false false false false false x0 x1 x2 x3 x4 v rfl rfl ⟨hv, (fun h => by cases h), (fun h => by cases h), (fun h => by cases h), (fun h => by cases h), (fun h => by cases h), (fun h => by cases h), (fun h => by cases h), (fun h => by cases h), (fun h => by cases h), (fun h => by cases h), (fun h => by cases h), (fun h => by cases h), (fun h => by cases h), (fun h => by cases h)⟩
  · intro b1 b2 b3 b4 x0 x1 x2 x3 x4 w hdd hI
    refine wpOp_mono (fun a u h => ?_) (h0 x0 x1 x2 x3 x4 w hI.g)
    obtain ⟨y, rfl, h1, h2, h3, h4⟩ := h
    obtain rfl : b1 = false := by cases b1; rfl; cases hdd
    exact ⟨y, rfl, ⟨h2, (fun _ _ => h3), (fun h => by cases h), (fun hb => o2.keep (hI.p2 hb) (fun k hk => h1.block k (o2.lt (hI.p2 hb) k hk))), (fun hb => o3.keep (hI.p3 hb) (fun k hk => h1.block k (o3.lt (hI.p3 hb) k hk))), (fun hb => o4.keep (hI.p4 hb) (fun k hk => h1.block k (o4.lt (hI.p4 hb) k hk))), (fun _ _ hb p q hp hq => by have := h4 p hp; have := o2.lt (hI.p2 hb) q hq; omega), (fun _ _ hb p q hp hq => by have := h4 p hp; have := o3.lt (hI.p3 hb) q hq; omega), (fun _ _ hb p q hp hq => by have := h4 p hp; have := o4.lt (hI.p4 hb) q hq; omega), (fun h => by cases h), (fun h => by cases h), (fun h => by cases h), hI.d23, hI.d24, hI.d34⟩⟩
  · intro b2 b3 b4 x0 x1 x2 x3 x4 w hdd hI
    refine wpOp_mono (fun a u h => ?_) (h1 x0 x1 x2 x3 x4 w hI.g (hI.p0 rfl rfl))
    obtain ⟨y, rfl, ⟨hz, h1⟩, h2, h3, h4⟩ := h
    exact ⟨y, rfl, ⟨h2, (fun _ h => by cases h), (fun _ => h3), (fun hb => (o2.keep (hI.p2 hb) (fun k hk => h1 k (o2.lt (hI.p2 hb) k hk) (fun e => hI.d02 rfl rfl hb k k e hk rfl)))), (fun hb => (o3.keep (hI.p3 hb) (fun k hk => h1 k (o3.lt (hI.p3 hb) k hk) (fun e => hI.d03 rfl rfl hb k k e hk rfl)))), (fun hb => (o4.keep (hI.p4 hb) (fun k hk => h1 k (o4.lt (hI.p4 hb) k hk) (fun e => hI.d04 rfl rfl hb k k e hk rfl)))), (fun _ h => by cases h), (fun _ h => by cases h), (fun _ h => by cases h), (fun _ hb p q hp hq => by rcases h4 p hp with h9 | h9; (have := o2.lt (hI.p2 hb) q hq; omega); exact hI.d02 rfl rfl hb p q h9 hq), (fun _ hb p q hp hq => by rcases h4 p hp with h9 | h9; (have := o3.lt (hI.p3 hb) q hq; omega); exact hI.d03 rfl rfl hb p q h9 hq), (fun _ hb p q hp hq => by rcases h4 p hp with h9 | h9; (have := o4.lt (hI.p4 hb) q hq; omega); exact hI.d04 rfl rfl hb p q h9 hq), hI.d23, hI.d24, hI.d34⟩⟩
  · intro b0 b1 b3 b4 x0 x1 x2 x3 x4 w hdd hI
    refine wpOp_mono (fun a u h => ?_) (h2 x0 x1 x2 x3 x4 w hI.g)
    obtain ⟨y, rfl, h1, h2, h3, h4⟩ := h
    exact ⟨y, rfl, ⟨h2, (fun hb hc => o0.keep (hI.p0 hb hc) (fun k hk => h1.block k (o0.lt (hI.p0 hb hc) k hk))), (fun hb => o1.keep (hI.p1 hb) (fun k hk => h1.block k (o1.lt (hI.p1 hb) k hk))), (fun _ => h3), (fun hb => o3.keep (hI.p3 hb) (fun k hk => h1.block k (o3.lt (hI.p3 hb) k hk))), (fun hb => o4.keep (hI.p4 hb) (fun k hk => h1.block k (o4.lt (hI.p4 hb) k hk))), (fun ha hc _ p q hp hq => by have := h4 q hq; have := o0.lt (hI.p0 ha hc) p hp; omega), hI.d03, hI.d04, (fun ha _ p q hp hq => by have := h4 q hq; have := o1.lt (hI.p1 ha) p hp; omega), hI.d13, hI.d14, (fun _ hb p q hp hq => by have := h4 p hp; have := o3.lt (hI.p3 hb) q hq; omega), (fun _ hb p q hp hq => by have := h4 p hp; have := o4.lt (hI.p4 hb) q hq; omega), hI.d34⟩⟩
  · intro b0 b1 b2 b4 x0 x1 x2 x3 x4 w hdd hI
    refine wpOp_mono (fun a u h => ?_) (h3 x0 x1 x2 x3 x4 w hI.g)
    obtain ⟨y, rfl, h1, h2, h3, h4⟩ := h
    exact ⟨y, rfl, ⟨h2, (fun hb hc => o0.keep (hI.p0 hb hc) (fun k hk => h1.block k (o0.lt (hI.p0 hb hc) k hk))), (fun hb => o1.keep (hI.p1 hb) (fun k hk => h1.block k (o1.lt (hI.p1 hb) k hk))), (fun hb => o2.keep (hI.p2 hb) (fun k hk => h1.block k (o2.lt (hI.p2 hb) k hk))), (fun _ => h3), (fun hb => o4.keep (hI.p4 hb) (fun k hk => h1.block k (o4.lt (hI.p4 hb) k hk))), hI.d02, (fun ha hc _ p q hp hq => by have := h4 q hq; have := o0.lt (hI.p0 ha hc) p hp; omega), hI.d04, hI.d12, (fun ha _ p q hp hq => by have := h4 q hq; have := o1.lt (hI.p1 ha) p hp; omega), hI.d14, (fun ha _ p q hp hq => by have := h4 q hq; have := o2.lt (hI.p2 ha) p hp; omega), hI.d24, (fun _ hb p q hp hq => by have := h4 p hp; have := o4.lt (hI.p4 hb) q hq; omega)⟩⟩
  · intro b0 b1 b2 b3 x0 x1 x2 x3 x4 w hdd hI
    refine wpOp_mono (fun a u h => ?_) (h4 x0 x1 x2 x3 x4 w hI.g)
    obtain ⟨y, rfl, h1, h2, h3, h4⟩ := h
    exact ⟨y, rfl, ⟨h2, (fun hb hc => o0.keep (hI.p0 hb hc) (fun k hk => h1.block k (o0.lt (hI.p0 hb hc) k hk))), (fun hb => o1.keep (hI.p1 hb) (fun k hk => h1.block k (o1.lt (hI.p1 hb) k hk))), (fun hb => o2.keep (hI.p2 hb) (fun k hk => h1.block k (o2.lt (hI.p2 hb) k hk))), (fun hb => o3.keep (hI.p3 hb) (fun k hk => h1.block k (o3.lt (hI.p3 hb) k hk))), (fun _ => h3), hI.d02, hI.d03, (fun ha hc _ p q hp hq => by have := h4 q hq; have := o0.lt (hI.p0 ha hc) p hp; omega), hI.d12, hI.d13, (fun ha _ p q hp hq => by have := h4 q hq; have := o1.lt (hI.p1 ha) p hp; omega), hI.d23, (fun ha _ p q hp hq => by have := h4 q hq; have := o2.lt (hI.p2 ha) p hp; omega), (fun ha _ p q hp hq => by have := h4 q hq; have := o3.lt (hI.p3 ha) p hp; omega)⟩⟩
  · intro x0 x1 x2 x3 x4 w hI
    exact hend x0 x1 x2 x3 x4 w hI.g (hI.p1 rfl) (hI.p2 rfl) (hI.p3 rfl) (hI.p4 rfl) (hI.d12 rfl rfl) (hI.d13 rfl rfl) (hI.d14 rfl rfl) (hI.d23 rfl rfl) (hI.d24 rfl rfl) (hI.d34 rfl rfl)
end Go.Proofs.Ytikmkkklgdkpaaa
