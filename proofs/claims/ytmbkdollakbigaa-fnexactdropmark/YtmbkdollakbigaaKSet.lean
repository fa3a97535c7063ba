/- Both sides' SetMark. -/
import Derived.Test.YtmbkdollakbigaaKOwnS
import Derived.Test.YtmbkdollakbigaaKGoodS
namespace Go.Proofs.Ytmbkdollakbigaa
set_option maxRecDepth 100000
open Go Go.ChangeShapes Go.WideShapes Go.ChangeAt Go.RowKit
/-- the last layer's mark -/
def lastM (S : List Ly) : Int := aheadM S S.length
theorem lastM_at {S : List Ly} (h : 0 < S.length) : lastM S = (S[S.length - 1]'(by omega)).mark := by
  unfold lastM
  have h1 := aheadM_at S (S.length - 1) (by omega)
  have h2 : aheadM S S.length = aheadM S (S.length - 1 + 1) := by rw [Nat.sub_add_cancel h]
  rw [h2]
  exact h1
theorem aheadM_snoc (S : List Ly) (y : Ly) (k : Nat) (h : k ≤ S.length) : aheadM (S ++ [y]) k = aheadM S k := by
  cases k with
  | zero => rfl
  | succ k => rw [aheadM_at _ k (by simp; omega), aheadM_at S k (by omega), List.getElem_append_left (by omega)]
/-- one more layer is good where there is room -/
theorem withK_good {S : List Ly} (hg : GoodK S) : withK S (lastM S + 1) = if S.length ≠ 8 ∧ lastM S ≠ 200 then some (S ++ [⟨lastM S + 1, [], []⟩]) else none := by
  obtain ⟨h1, h8, hall⟩ := hg
  have hl := lastM_at (S := S) (by omega)
  have hlast := hall (S.length - 1) (by omega)
  obtain ⟨_, m0, m1, _⟩ := hlast
  rw [← hl] at m0 m1
  unfold withK
  by_cases hc : S.length ≠ 8 ∧ lastM S ≠ 200
  · rw [if_pos hc, if_pos]
    refine goodK_iff.2 ⟨by simp, by simp; omega, fun k hk => ?_⟩
    rcases snoc_at S ⟨lastM S + 1, [], []⟩ k hk with ⟨h', e⟩ | ⟨ek, e⟩
    · rw [e]
      have := hall k h'
      unfold lyAt at this ⊢
      rw [aheadM_snoc S _ k (by omega)]
      exact this
    · rw [e]
      subst ek
      refine ⟨?_, by show 0 ≤ lastM S + 1; omega, by show lastM S + 1 ≤ 200; omega, (fun j hj => absurd hj (Nat.not_lt_zero _)), rfl, (fun j hj => absurd hj (Nat.not_lt_zero _))⟩
      rw [aheadM_snoc S _ S.length (Nat.le_refl _)]
      show lastM S < lastM S + 1
      omega
  · rw [if_neg hc, if_neg]
    intro g
    obtain ⟨_, g8, gall⟩ := goodK_iff.1 g
    have hlen : (S ++ [(⟨lastM S + 1, [], []⟩ : Ly)]).length = S.length + 1 := by simp
    rw [hlen] at g8
    have := gall S.length (by rw [hlen]; omega)
    rcases snoc_at S ⟨lastM S + 1, [], []⟩ S.length (by rw [hlen]; omega) with ⟨h', e⟩ | ⟨_, e⟩
    · omega
    · rw [e] at this
      have h2 : lastM S + 1 ≤ 200 := this.2.2.1
      exact hc ⟨by omega, by omega⟩
/-- what SetMark makes -/
def setK (S : List Ly) : Option (List Ly) := if goodK S = true then withK S (lastM S + 1) else none
def setQ (S : List Ly) : Int := if (setK S).isSome = true then lastM S else 0
/-- marks, the mark that was the last one's, and true, in memory of their own; or nothing -/
def QOut (S : List Ly) (o : Option (List Ly)) (w : World) (e : Ending) (w' : World) : Prop := match o with
  | some V => ∃ b c, e = .returned (.tuple #[.agg #[.slice b V.length c], .int .i64 (lastM S), .bool true]) ∧ OwnK w.heap.size w'.heap.size b V w' ∧ Below w.heap.size w w'
  | none => e = .returned (.tuple #[.agg #[.slice none 0 0], .int .i64 0, .bool false]) ∧ Below w.heap.size w w'
theorem QOut.owns {S : List Ly} {w : World} {e : Ending} {w' : World} (h : QOut S (setK S) w e w') : ∃ b c, e = .returned (.tuple #[.agg #[.slice b ((setK S).getD []).length c], .int .i64 (setQ S), .bool (setK S).isSome]) ∧ OwnK w.heap.size w'.heap.size b ((setK S).getD []) w' ∧ Below w.heap.size w w' := by
  unfold setQ
  cases ho : setK S with
  | none => rw [ho] at h; obtain ⟨h1, h2⟩ := h; exact ⟨none, 0, h1, Or.inl rfl, h2⟩
  | some V => rw [ho] at h; obtain ⟨b, c, h1, h2, h3⟩ := h; exact ⟨b, c, h1, h2, h3⟩
theorem QOut.says {S : List Ly} {w : World} {e : Ending} {w' : World} (h : QOut S (setK S) w e w') : ∃ b c, e = .returned (.tuple #[.agg #[.slice b ((setK S).getD []).length c], .int .i64 (setQ S), .bool (setK S).isSome]) ∧ Ys w'.heap.size b ((setK S).getD []) w' ∧ Below w.heap.size w w' := by
  obtain ⟨b, c, h1, h2, h3⟩ := h.owns
  exact ⟨b, c, h1, h2.ys, h3⟩
theorem setK_fit (S : List Ly) : FitK ((setK S).getD []) := by
  unfold setK
  split
  · exact withK_fit S _ trivial
  · show wtK [] ≤ _; decide
set_option maxHeartbeats 1000000 in
theorem lastMark_any (a : Option Addr) (cap : Nat) (S : List Ly) (w : World) (h0 : 0 < S.length) (hn : S.length ≤ 9000) (hG : Ys w.heap.size a S w) :
    Calls Try.prog 35 #[.agg #[.slice a S.length cap]] w fun e w' => e = .returned (.int .i64 (lastM S)) ∧ Below w.heap.size w w' := by
  have HB := hid (Bx.start w (.cells #[.slice a S.length cap] 31))
  obtain ⟨b, off, rfl, hb, hcl⟩ := (hG.below HB.out.below) h0
  obtain ⟨p, c, q, d, c0, -⟩ := hcl (S.length - 1) (by omega)
  have hl := lastM_at h0
  rw [← hl] at c0
  obtain ⟨n, hnn⟩ : ∃ n, S.length = n + 1 := ⟨S.length - 1, by omega⟩
  rw [hnn] at c0 ⊢
  have e1 : n + 1 - 1 = n := by omega
  rw [e1] at c0
  have x0 : (w.alloc (.cells #[.slice (some ⟨b, off, none⟩) S.length cap] 31)).cell? ⟨w.heap.size, 0, none⟩ = some (.slice (some ⟨b, off, none⟩) S.length cap) := box_cell HB.out.box 0
  rw [hnn] at x0 HB
  have hpw := pred_wrap n (by omega)
  have hnb : n ≤ 9000 := by omega
  clear hcl hG hl hnn hn h0 e1
  generalize lastM S = q9 at *
  generalize hW : w.alloc (.cells #[.slice (some ⟨b, off, none⟩) (n + 1) cap] 31) = W at *
  go_enter Try.func35, Try.ntmps35
  go_wp2_with fail
  go_ret
  exact ⟨rfl, HB.out.below⟩
/-- two boxes of marks -/
structure B2 (w : World) (X : Value) (wr : World) : Prop where
  below : Below w.heap.size w wr
  x : wr.heap[w.heap.size]? = some (.cells #[X] 31)
  z : wr.heap[w.heap.size + 1]? = some (.cells #[.slice none 0 0] 31)
theorem B2.start (w : World) (X : Value) : B2 w X ((w.alloc (.cells #[X] 31)).alloc (.cells #[.slice none 0 0] 31)) :=
  ⟨((Below.refl _ _).alloc (Nat.le_refl _) _).alloc (by simp) _, heap_mid2 _ _ _, heap_last2 _ _ _⟩
theorem B2.size {w : World} {X : Value} {wr : World} (h : B2 w X wr) : w.heap.size + 2 ≤ wr.heap.size := by
  rcases Nat.lt_or_ge (w.heap.size + 1) wr.heap.size with h' | h'
  · omega
  · have := h.z
    rw [Array.getElem?_eq_none h'] at this; cases this
theorem B2.on {w : World} {X : Value} {wr w' : World} (h : B2 w X wr) (g : Below wr.heap.size wr w') : B2 w X w' := by
  have hs := h.size
  exact ⟨h.below.trans (g.mono (by omega)), (g.block _ (by omega)).trans h.x, (g.block _ (by omega)).trans h.z⟩
theorem B2.cells {w : World} {X : Value} {wr : World} (h : B2 w X wr) : wr.cell? ⟨w.heap.size, 0, none⟩ = some X ∧ wr.cell? ⟨w.heap.size + 1, 0, none⟩ = some (.slice none 0 0) ∧ wr.frozen? ⟨w.heap.size + 1, 0, none⟩ = false := ⟨box_cell h.x 0, box_cell h.z 0, box_free h.z 0⟩
end Go.Proofs.Ytmbkdollakbigaa
