/- Four operations in whatever order, of which three ready one more. -/
import Derived.Test.YtikmkkklgdkpaaaFc4
namespace Go.Proofs.Ytikmkkklgdkpaaa
set_option maxRecDepth 100000
open Go Go.ChangeShapes Go.WideShapes Go.ChangeAt Go.RowKit
theorem wpAny_fourX {P : Program} {ops : Array Oper} {Q : Exit → Act → World → Prop} {md : Region.Mode} (L : Bool → Bool → Bool → Bool → Array Bool) (F : Value → Value → Value → Value → Act)
    (I : Bool → Bool → Bool → Bool → Value → Value → Value → Value → World → Prop) (i1 i2 i3 i4 n0 : Nat)
    (hr : ∀ b1 b2 b3 b4, (b1 && b2 && b3) = false → (Region.ready md ops (L b1 b2 b3 b4)).isEmpty = false ∧ (Region.ready md ops (L b1 b2 b3 b4)).all (fun j => (j == i1 && !b1) || (j == i2 && !b2) || (j == i3 && !b3) || (j == i4 && !b4)) = true)
    (s1 : ∀ b1 b2 b3 b4, (L b1 b2 b3 b4).setIfInBounds i1 true = L true b2 b3 b4) (s2 : ∀ b1 b2 b3 b4, (L b1 b2 b3 b4).setIfInBounds i2 true = L b1 true b3 b4)
    (s3 : ∀ b1 b2 b3 b4, (L b1 b2 b3 b4).setIfInBounds i3 true = L b1 b2 true b4) (s4 : ∀ b1 b2 b3 b4, (L b1 b2 b3 b4).setIfInBounds i4 true = L b1 b2 b3 true)
    (h1 : ∀ b2 b3 b4 x1 x2 x3 x4 w, I false b2 b3 b4 x1 x2 x3 x4 w → wpOp P ops Q i1 (fun a u => ∃ y, a = F y x2 x3 x4 ∧ I true b2 b3 b4 y x2 x3 x4 u) (F x1 x2 x3 x4) w)
    (h2 : ∀ b1 b3 b4 x1 x2 x3 x4 w, I b1 false b3 b4 x1 x2 x3 x4 w → wpOp P ops Q i2 (fun a u => ∃ y, a = F x1 y x3 x4 ∧ I b1 true b3 b4 x1 y x3 x4 u) (F x1 x2 x3 x4) w)
    (h3 : ∀ b1 b2 b4 x1 x2 x3 x4 w, I b1 b2 false b4 x1 x2 x3 x4 w → wpOp P ops Q i3 (fun a u => ∃ y, a = F x1 x2 y x4 ∧ I b1 b2 true b4 x1 x2 y x4 u) (F x1 x2 x3 x4) w)
    (h4 : ∀ b1 b2 b3 x1 x2 x3 x4 w, I b1 b2 b3 false x1 x2 x3 x4 w → wpOp P ops Q i4 (fun a u => ∃ y, a = F x1 x2 x3 y ∧ I b1 b2 b3 true x1 x2 x3 y u) (F x1 x2 x3 x4) w)
    (hx : ∀ x1 x2 x3 x4 w, I true true true false x1 x2 x3 x4 w → wpAny P md ops Q (n0 + 1) (L true true true false) (F x1 x2 x3 x4) w)
    (hend : ∀ x1 x2 x3 x4 w, I true true true true x1 x2 x3 x4 w → wpAny P md ops Q n0 (L true true true true) (F x1 x2 x3 x4) w) :
    ∀ k b1 b2 b3 b4 x1 x2 x3 x4 w, rem4 b1 b2 b3 b4 = k → I b1 b2 b3 b4 x1 x2 x3 x4 w → wpAny P md ops Q (n0 + k) (L b1 b2 b3 b4) (F x1 x2 x3 x4) w := by
  intro k
  induction k with
  | zero =>
    intro b1 b2 b3 b4 x1 x2 x3 x4 w hk hI
    obtain ⟨e1, e2, e3, e4⟩ := rem4_zero hk
    subst e1 e2 e3 e4
    exact hend x1 x2 x3 x4 w hI
  | succ k ih =>
    intro b1 b2 b3 b4 x1 x2 x3 x4 w hk hI
    have hn := rem4_some hk
    by_cases h123 : (b1 && b2 && b3) = true
    · have hb : b1 = true ∧ b2 = true ∧ b3 = true := by cases b1 <;> cases b2 <;> cases b3 <;> first | exact ⟨rfl, rfl, rfl⟩ | (exact absurd h123 (by decide))
      obtain ⟨rfl, rfl, rfl⟩ := hb
      obtain rfl : b4 = false := by cases b4; rfl; exact absurd hn (by decide)
      obtain rfl : k = 0 := by have : rem4 true true true false = 1 := rfl; omega
      exact hx x1 x2 x3 x4 w hI
    obtain ⟨r1, r2⟩ := hr b1 b2 b3 b4 (by simpa using h123)
    refine ⟨fun h0 => ?_, fun j hj => ?_⟩
    · rw [h0] at r1; cases r1
    have hj2 := List.all_eq_true.1 r2 j hj
    simp only [Bool.or_eq_true, Bool.and_eq_true, beq_iff_eq, Bool.not_eq_true'] at hj2
    rcases hj2 with ((⟨rfl, rfl⟩ | ⟨rfl, rfl⟩) | ⟨rfl, rfl⟩) | ⟨rfl, rfl⟩
    · refine wpOp_mono (fun a u h => ?_) (h1 b2 b3 b4 x1 x2 x3 x4 w hI)
      obtain ⟨y, rfl, hy⟩ := h
      rw [s1]
      exact ih true b2 b3 b4 y x2 x3 x4 u (rem4_1 hk) hy
    · refine wpOp_mono (fun a u h => ?_) (h2 b1 b3 b4 x1 x2 x3 x4 w hI)
      obtain ⟨y, rfl, hy⟩ := h
      rw [s2]
      exact ih b1 true b3 b4 x1 y x3 x4 u (rem4_2 hk) hy
    · refine wpOp_mono (fun a u h => ?_) (h3 b1 b2 b4 x1 x2 x3 x4 w hI)
      obtain ⟨y, rfl, hy⟩ := h
      rw [s3]
      exact ih b1 b2 true b4 x1 x2 y x4 u (rem4_3 hk) hy
    · refine wpOp_mono (fun a u h => ?_) (h4 b1 b2 b3 x1 x2 x3 x4 w hI)
      obtain ⟨y, rfl, hy⟩ := h
      rw [s4]
      exact ih b1 b2 b3 true x1 x2 x3 y u (rem4_4 hk) hy
theorem wpAny_fam4X {P : Program} {ops : Array Oper} {Q : Exit → Act → World → Prop} {md : Region.Mode} (L : Bool → Bool → Bool → Bool → Array Bool) (F : Value → Value → Value → Value → Act)
    (G : World → Prop) (P1 P2 P3 P4 : World → Value → Prop) (o1 : OwnPr P1) (o2 : OwnPr P2) (o3 : OwnPr P3) (o4 : OwnPr P4) (i1 i2 i3 i4 n0 : Nat)
    (hr : ∀ b1 b2 b3 b4, (b1 && b2 && b3) = false → (Region.ready md ops (L b1 b2 b3 b4)).isEmpty = false ∧ (Region.ready md ops (L b1 b2 b3 b4)).all (fun j => (j == i1 && !b1) || (j == i2 && !b2) || (j == i3 && !b3) || (j == i4 && !b4)) = true)
    (s1 : ∀ b1 b2 b3 b4, (L b1 b2 b3 b4).setIfInBounds i1 true = L true b2 b3 b4) (s2 : ∀ b1 b2 b3 b4, (L b1 b2 b3 b4).setIfInBounds i2 true = L b1 true b3 b4)
    (s3 : ∀ b1 b2 b3 b4, (L b1 b2 b3 b4).setIfInBounds i3 true = L b1 b2 true b4) (s4 : ∀ b1 b2 b3 b4, (L b1 b2 b3 b4).setIfInBounds i4 true = L b1 b2 b3 true)
    (h1 : ∀ x1 x2 x3 x4 v, G v → wpOp P ops Q i1 (fun a u => ∃ y, a = F y x2 x3 x4 ∧ Below v.heap.size v u ∧ G u ∧ P1 u y ∧ ∀ k, y.ownBlock = some k → v.heap.size ≤ k) (F x1 x2 x3 x4) v)
    (h2 : ∀ x1 x2 x3 x4 v, G v → wpOp P ops Q i2 (fun a u => ∃ y, a = F x1 y x3 x4 ∧ Below v.heap.size v u ∧ G u ∧ P2 u y ∧ ∀ k, y.ownBlock = some k → v.heap.size ≤ k) (F x1 x2 x3 x4) v)
    (h3 : ∀ x1 x2 x3 x4 v, G v → wpOp P ops Q i3 (fun a u => ∃ y, a = F x1 x2 y x4 ∧ Below v.heap.size v u ∧ G u ∧ P3 u y ∧ ∀ k, y.ownBlock = some k → v.heap.size ≤ k) (F x1 x2 x3 x4) v)
    (h4 : ∀ x1 x2 x3 x4 v, G v → wpOp P ops Q i4 (fun a u => ∃ y, a = F x1 x2 x3 y ∧ Below v.heap.size v u ∧ G u ∧ P4 u y ∧ ∀ k, y.ownBlock = some k → v.heap.size ≤ k) (F x1 x2 x3 x4) v)
    (hx : ∀ x1 x2 x3 x4 v, G v → P1 v x1 → P2 v x2 → P3 v x3 → Ds x1 x2 → Ds x1 x3 → Ds x2 x3 → wpAny P md ops Q (n0 + 1) (L true true true false) (F x1 x2 x3 x4) v)
    (hend : ∀ x1 x2 x3 x4 v, G v → P1 v x1 → P2 v x2 → P3 v x3 → P4 v x4 → Ds x1 x2 → Ds x1 x3 → Ds x1 x4 → Ds x2 x3 → Ds x2 x4 → Ds x3 x4 → wpAny P md ops Q n0 (L true true true true) (F x1 x2 x3 x4) v)
    (x1 x2 x3 x4 : Value) (v : World) (hv : G v) : wpAny P md ops Q (n0 + 4) (L false false false false) (F x1 x2 x3 x4) v := by
  refine wpAny_fourX L F (Fam4 G P1 P2 P3 P4) i1 i2 i3 i4 n0 hr s1 s2 s3 s4 ?_ ?_ ?_ ?_ ?_ ?_ 4 false false false false x1 x2 x3 x4 v rfl ⟨hv, (fun h => by cases h), (fun h => by cases h), (fun h => by cases h), (fun h => by cases h), (fun h => by cases h), (fun h => by cases h), (fun h => by cases h), (fun h => by cases h), (fun h => by cases h), (fun h => by cases h)⟩
  · intro b2 b3 b4 x1 x2 x3 x4 w hI
    refine wpOp_mono (fun a u h => ?_) (h1 x1 x2 x3 x4 w hI.g)
    obtain ⟨y, rfl, h1, h2, h3, h4⟩ := h
    exact ⟨y, rfl, hI.s1 o1 o2 o3 o4 h1 h2 h3 h4⟩
  · intro b1 b3 b4 x1 x2 x3 x4 w hI
    refine wpOp_mono (fun a u h => ?_) (h2 x1 x2 x3 x4 w hI.g)
    obtain ⟨y, rfl, h1, h2, h3, h4⟩ := h
    exact ⟨y, rfl, hI.s2 o1 o2 o3 o4 h1 h2 h3 h4⟩
  · intro b1 b2 b4 x1 x2 x3 x4 w hI
    refine wpOp_mono (fun a u h => ?_) (h3 x1 x2 x3 x4 w hI.g)
    obtain ⟨y, rfl, h1, h2, h3, h4⟩ := h
    exact ⟨y, rfl, hI.s3 o1 o2 o3 o4 h1 h2 h3 h4⟩
  · intro b1 b2 b3 x1 x2 x3 x4 w hI
    refine wpOp_mono (fun a u h => ?_) (h4 x1 x2 x3 x4 w hI.g)
    obtain ⟨y, rfl, h1, h2, h3, h4⟩ := h
    exact ⟨y, rfl, hI.s4 o1 o2 o3 o4 h1 h2 h3 h4⟩
  · intro x1 x2 x3 x4 w hI
    exact hx x1 x2 x3 x4 w hI.g (hI.p1 rfl) (hI.p2 rfl) (hI.p3 rfl) (hI.d12 rfl rfl) (hI.d13 rfl rfl) (hI.d23 rfl rfl)
  · intro x1 x2 x3 x4 w hI
    exact hend x1 x2 x3 x4 w hI.g (hI.p1 rfl) (hI.p2 rfl) (hI.p3 rfl) (hI.p4 rfl) (hI.d12 rfl rfl) (hI.d13 rfl rfl) (hI.d14 rfl rfl) (hI.d23 rfl rfl) (hI.d24 rfl rfl) (hI.d34 rfl rfl)
end Go.Proofs.Ytikmkkklgdkpaaa
