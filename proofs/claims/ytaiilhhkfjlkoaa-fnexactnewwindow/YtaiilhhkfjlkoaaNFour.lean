/- A region that draws its order: four operations that come up in any order, each once; the others taken ahead, or behind. -/
import Derived.RegionTactic
namespace Go.Proofs.Ytaiilhhkfjlkoaa
set_option maxRecDepth 100000
open Go
def rem4 (b1 b2 b3 b4 : Bool) : Nat := (cond b1 0 1) + (cond b2 0 1) + (cond b3 0 1) + (cond b4 0 1)
theorem rem4_zero {b1 b2 b3 b4 : Bool} (h : rem4 b1 b2 b3 b4 = 0) : b1 = true ∧ b2 = true ∧ b3 = true ∧ b4 = true := by
  revert h; cases b1 <;> cases b2 <;> cases b3 <;> cases b4 <;> decide
theorem rem4_some {b1 b2 b3 b4 : Bool} {k : Nat} (h : rem4 b1 b2 b3 b4 = k + 1) : (b1 && b2 && b3 && b4) = false := by
  cases b1 <;> cases b2 <;> cases b3 <;> cases b4 <;> first | rfl | (exact absurd h (by show ¬ (0 = k + 1); omega))
theorem rem4_1 {b2 b3 b4 : Bool} {k : Nat} (h : rem4 false b2 b3 b4 = k + 1) : rem4 true b2 b3 b4 = k := by unfold rem4 at *; simp only [cond_false, cond_true] at *; omega
theorem rem4_2 {b1 b3 b4 : Bool} {k : Nat} (h : rem4 b1 false b3 b4 = k + 1) : rem4 b1 true b3 b4 = k := by unfold rem4 at *; simp only [cond_false, cond_true] at *; omega
theorem rem4_3 {b1 b2 b4 : Bool} {k : Nat} (h : rem4 b1 b2 false b4 = k + 1) : rem4 b1 b2 true b4 = k := by unfold rem4 at *; simp only [cond_false, cond_true] at *; omega
theorem rem4_4 {b1 b2 b3 : Bool} {k : Nat} (h : rem4 b1 b2 b3 false = k + 1) : rem4 b1 b2 b3 true = k := by unfold rem4 at *; simp only [cond_false, cond_true] at *; omega
theorem wpAny_four {P : Program} {ops : Array Oper} {Q : Exit → Act → World → Prop} {md : Region.Mode} (L : Bool → Bool → Bool → Bool → Array Bool) (F : Value → Value → Value → Value → Act)
    (I : Bool → Bool → Bool → Bool → Value → Value → Value → Value → World → Prop) (i1 i2 i3 i4 n0 : Nat)
    (hr : ∀ b1 b2 b3 b4, (b1 && b2 && b3 && b4) = false → (Region.ready md ops (L b1 b2 b3 b4)).isEmpty = false ∧ (Region.ready md ops (L b1 b2 b3 b4)).all (fun j => (j == i1 && !b1) || (j == i2 && !b2) || (j == i3 && !b3) || (j == i4 && !b4)) = true)
    (s1 : ∀ b1 b2 b3 b4, (L b1 b2 b3 b4).setIfInBounds i1 true = L true b2 b3 b4) (s2 : ∀ b1 b2 b3 b4, (L b1 b2 b3 b4).setIfInBounds i2 true = L b1 true b3 b4)
    (s3 : ∀ b1 b2 b3 b4, (L b1 b2 b3 b4).setIfInBounds i3 true = L b1 b2 true b4) (s4 : ∀ b1 b2 b3 b4, (L b1 b2 b3 b4).setIfInBounds i4 true = L b1 b2 b3 true)
    (h1 : ∀ b2 b3 b4 x1 x2 x3 x4 w, I false b2 b3 b4 x1 x2 x3 x4 w → wpOp P ops Q i1 (fun a u => ∃ y, a = F y x2 x3 x4 ∧ I true b2 b3 b4 y x2 x3 x4 u) (F x1 x2 x3 x4) w)
    (h2 : ∀ b1 b3 b4 x1 x2 x3 x4 w, I b1 false b3 b4 x1 x2 x3 x4 w → wpOp P ops Q i2 (fun a u => ∃ y, a = F x1 y x3 x4 ∧ I b1 true b3 b4 x1 y x3 x4 u) (F x1 x2 x3 x4) w)
    (h3 : ∀ b1 b2 b4 x1 x2 x3 x4 w, I b1 b2 false b4 x1 x2 x3 x4 w → wpOp P ops Q i3 (fun a u => ∃ y, a = F x1 x2 y x4 ∧ I b1 b2 true b4 x1 x2 y x4 u) (F x1 x2 x3 x4) w)
    (h4 : ∀ b1 b2 b3 x1 x2 x3 x4 w, I b1 b2 b3 false x1 x2 x3 x4 w → wpOp P ops Q i4 (fun a u => ∃ y, a = F x1 x2 x3 y ∧ I b1 b2 b3 true x1 x2 x3 y u) (F x1 x2 x3 x4) w)
    (hend : ∀ x1 x2 x3 x4 w, I true true true true x1 x2 x3 x4 w → wpAny P md ops Q n0 (L true true true true) (F x1 x2 x3 x4) w) :
    ∀ k b1 b2 b3 b4 x1 x2 x3 x4 w, rem4 b1 b2 b3 b4 = k → I b1 b2 b3 b4 x1 x2 x3 x4 w → wpAny P md ops Q (n0 + k) (L b1 b2 b3 b4) (F x1 x2 x3 x4) w := by
  intro k
  induction k with
  | zero =>
    intro b1 b2 b3 b4 x1 x2 x3 x4 w hk hI
    obtain ⟨e1, e2, e3, e4⟩ := rem4_zero hk
    subst e1 e2 e3 e4
    exact hend x1 x2 x3 x4 w hI
  | succ k ih =>
    intro b1 b2 b3 b4 x1 x2 x3 x4 w hk hI
    have hn := rem4_some hk
    obtain ⟨r1, r2⟩ := hr b1 b2 b3 b4 hn
    refine ⟨fun h0 => ?_, fun j hj => ?_⟩
    · rw [h0] at r1; cases r1
    have hj2 := List.all_eq_true.1 r2 j hj
    simp only [Bool.or_eq_true, Bool.and_eq_true, beq_iff_eq, Bool.not_eq_true'] at hj2
    rcases hj2 with ((⟨rfl, rfl⟩ | ⟨rfl, rfl⟩) | ⟨rfl, rfl⟩) | ⟨rfl, rfl⟩
    · refine wpOp_mono (fun a u h => ?_) (h1 b2 b3 b4 x1 x2 x3 x4 w hI)
      obtain ⟨y, rfl, hy⟩ := h
      rw [s1]
      exact ih true b2 b3 b4 y x2 x3 x4 u (rem4_1 hk) hy
    · refine wpOp_mono (fun a u h => ?_) (h2 b1 b3 b4 x1 x2 x3 x4 w hI)
      obtain ⟨y, rfl, hy⟩ := h
      rw [s2]
      exact ih b1 true b3 b4 x1 y x3 x4 u (rem4_2 hk) hy
    · refine wpOp_mono (fun a u h => ?_) (h3 b1 b2 b4 x1 x2 x3 x4 w hI)
      obtain ⟨y, rfl, hy⟩ := h
      rw [s3]
      exact ih b1 b2 true b4 x1 x2 y x4 u (rem4_3 hk) hy
    · refine wpOp_mono (fun a u h => ?_) (h4 b1 b2 b3 x1 x2 x3 x4 w hI)
      obtain ⟨y, rfl, hy⟩ := h
      rw [s4]
      exact ih b1 b2 b3 true x1 x2 x3 y u (rem4_4 hk) hy
end Go.Proofs.Ytaiilhhkfjlkoaa
