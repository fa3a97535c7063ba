/- Ops: what an op asks for; plain. -/
import Derived.Test.YtlbhfgcpflhccaaVOpen
import Derived.Test.YtlbhfgcpflhccaaGood
namespace Go.Proofs.Ytlbhfgcpflhccaa
set_option maxRecDepth 100000
open Go Go.RowKit G00541
def opR (o : Op) : Rc := ⟨o.kind, o.place, o.long, o.data.data.toList⟩
def recOk (o : Op) : Bool := decide (1 ≤ o.kind ∧ o.kind ≤ 3 ∧ o.keep = 0) && goodR (opR o)
/-- what an op of its kind has no use for is zero -/
def needP (o : Op) : Prop := (o.kind = 1 ∨ o.kind = 2 ∨ o.kind = 3 ∨ o.place = 0) ∧ (o.kind = 1 ∨ o.kind = 2 ∨ o.long = 0) ∧ (o.kind = 1 ∨ o.data.data.toList = []) ∧ (o.kind = 5 ∨ o.keep = 0)
instance (o : Op) : Decidable (needP o) := by unfold needP; infer_instance
def needOk (o : Op) : Bool := decide (needP o)
theorem need_eq (o : Op) (b : Bool) (h : needP o ↔ b = true) : needOk o = b := by
  unfold needOk
  cases b
  · exact decide_eq_false (fun x => by have := h.1 x; cases this)
  · exact decide_eq_true (h.2 rfl)
theorem rec_need {o : Op} (h : recOk o = true) : needOk o = true := by
  unfold recOk at h
  rw [Bool.and_eq_true] at h
  obtain ⟨h1, hg⟩ := h
  obtain ⟨a, b, c⟩ := of_decide_eq_true h1
  obtain ⟨k, p, n, D, m⟩ := o
  simp only at a b c
  refine decide_eq_true (p := needP _) ?_
  unfold needP
  simp only
  unfold opR at hg
  simp only at hg
  rcases (show k = 1 ∨ k = 2 ∨ k = 3 by omega) with rfl | rfl | rfl
  · exact ⟨Or.inl rfl, Or.inl rfl, Or.inl rfl, Or.inr c⟩
  · rw [good_two, Bool.and_eq_true] at hg
    exact ⟨Or.inr (Or.inl rfl), Or.inr (Or.inl rfl), Or.inr (of_decide_eq_true hg.2), Or.inr c⟩
  · rw [good_three] at hg
    have := of_decide_eq_true hg
    exact ⟨Or.inr (Or.inr (Or.inl rfl)), Or.inr (Or.inr this.2.2.1), Or.inr this.2.2.2, Or.inr c⟩
theorem rec_iff (o : Op) (h : 1 ≤ o.kind ∧ o.kind ≤ 3) : recOk o = (needOk o && goodR (opR o)) := by
  cases hg : goodR (opR o)
  · unfold recOk; rw [hg, Bool.and_false, Bool.and_false]
  · cases hr : recOk o
    · cases hn : needOk o
      · rfl
      · exfalso
        have := of_decide_eq_true hn
        unfold recOk at hr
        rw [hg, Bool.and_true, decide_eq_false_iff_not] at hr
        apply hr
        refine ⟨h.1, h.2, ?_⟩
        rcases this.2.2.2 with h5 | h0
        · omega
        · exact h0
    · rw [rec_need hr]; rfl
theorem rec_out (o : Op) (h : ¬ (1 ≤ o.kind ∧ o.kind ≤ 3)) : recOk o = false := by
  unfold recOk
  rw [decide_eq_false (fun g => h ⟨g.1, g.2.1⟩)]; rfl
theorem rec_keep (o : Op) (h : o.keep ≠ 0) : recOk o = false := by
  unfold recOk
  rw [decide_eq_false (fun g => h g.2.2)]; rfl
theorem rec_in (o : Op) (h : 1 ≤ o.kind ∧ o.kind ≤ 3) (hk : o.keep = 0) : recOk o = goodR (opR o) := by
  unfold recOk
  rw [decide_eq_true ⟨h.1, h.2, hk⟩]; rfl
/-- the record of an op that is none: nothing -/
def recV (o : Op) : Value := if recOk o = true then .agg #[.int .i64 o.kind, .int .i64 o.place, .int .i64 o.long, .string o.data] else .agg #[.int .i64 0, .int .i64 0, .int .i64 0, .string ⟨#[]⟩]
theorem recV_yes {o : Op} (h : recOk o = true) : recV o = .agg #[.int .i64 o.kind, .int .i64 o.place, .int .i64 o.long, .string o.data] := by unfold recV; rw [if_pos h]
theorem recV_no {o : Op} (h : recOk o = false) : recV o = .agg #[.int .i64 0, .int .i64 0, .int .i64 0, .string ⟨#[]⟩] := by unfold recV; rw [if_neg (by rw [h]; decide)]
end Go.Proofs.Ytlbhfgcpflhccaa
