/- Drawn regions by one invariant over what is done. -/
import Derived.Test.YtmbkdollakbigaaHA
import Derived.Deep.RegionHeld
import Derived.OrdersIn
namespace Go.Proofs.Ytmbkdollakbigaa
set_option maxRecDepth 100000
open Go
/-- what an operation waits for -/
def depsOf (md : Region.Mode) (ops : Array Oper) (j : Nat) : List Nat := ((ops[j]?).map fun o => (o.after.toList.filter (fun e => Region.binds md e)).map (·.on)).getD []
/-- each waits for earlier ones alone -/
def risesB (md : Region.Mode) (ops : Array Oper) : Bool := (List.range ops.size).all fun j => (depsOf md ops j).all fun i => decide (i < j)
theorem risesB_at {md : Region.Mode} {ops : Array Oper} (h : risesB md ops = true) {j i : Nat} (hj : j < ops.size) (hi : i ∈ depsOf md ops j) : i < j :=
  of_decide_eq_true (List.all_eq_true.1 (List.all_eq_true.1 h j (List.mem_range.2 hj)) i hi)
theorem deps_of {md : Region.Mode} {ops : Array Oper} {j : Nat} (hj : j < ops.size) (l : Array Bool) :
    ((ops[j]?).map (·.after.all fun e => !Region.binds md e || l.getD e.on false)).getD false = true ↔ ∀ i ∈ depsOf md ops j, l.getD i false = true := by
  unfold depsOf
  rw [Array.getElem?_eq_getElem hj]
  simp only [Option.map_some, Option.getD_some]
  rw [← Array.all_toList, List.all_eq_true]
  constructor
  · intro h i hi
    obtain ⟨e, he, rfl⟩ := List.mem_map.1 hi
    obtain ⟨h1, h2⟩ := List.mem_filter.1 he
    have := h e h1
    rw [h2] at this
    simpa using this
  · intro h e he
    cases hb : Region.binds md e with
    | false => rfl
    | true => simpa using h e.on (List.mem_map.2 ⟨e, List.mem_filter.2 ⟨he, hb⟩, rfl⟩)
theorem ready_of {md : Region.Mode} {ops : Array Oper} {l : Array Bool} {j : Nat} : j ∈ Region.ready md ops l ↔ j < ops.size ∧ l.getD j true = false ∧ ∀ i ∈ depsOf md ops j, l.getD i false = true := by
  unfold Region.ready
  rw [List.mem_filter, List.mem_range]
  constructor
  · rintro ⟨h1, h2⟩
    rw [Bool.and_eq_true, deps_of h1] at h2
    exact ⟨h1, by simpa using h2.1, h2.2⟩
  · rintro ⟨h1, h2, h3⟩
    refine ⟨h1, ?_⟩
    rw [Bool.and_eq_true, deps_of h1]
    exact ⟨by simp only [h2, Bool.not_false], h3⟩
theorem getD_tf (l : Array Bool) (j : Nat) (h : j < l.size) : l.getD j true = l.getD j false := by
  simp only [Array.getD, h, dif_pos]
theorem none_ready {md : Region.Mode} {ops : Array Oper} {l : Array Bool} (hl : l.size = ops.size) (hr : risesB md ops = true) (hn : Region.ready md ops l = []) : ∀ j, j < ops.size → l.getD j false = true := by
  intro j
  induction j using Nat.strongRecOn with
  | _ j ih =>
    intro hj
    cases hd : l.getD j false with
    | true => rfl
    | false =>
      have : j ∈ Region.ready md ops l := ready_of.2 ⟨hj, by rw [getD_tf l j (by omega)]; exact hd, fun i hi => ih i (risesB_at hr hj hi) (Nat.lt_trans (risesB_at hr hj hi) hj)⟩
      rw [hn] at this
      cases this
theorem set_done (l : Array Bool) (j : Nat) (h : j < l.size) : (fun i => (l.setIfInBounds j true).getD i false) = fun i => if j = i then true else l.getD i false := by
  funext i
  by_cases e : j = i
  · subst e
    rw [if_pos rfl]
    simp [Array.getD, h]
  · rw [if_neg e]
    by_cases hi : i < l.size
    · simp [Array.getD, hi, e]
    · simp [Array.getD, hi]
theorem count_set (l : Array Bool) (j : Nat) (h : j < l.size) (hf : l.getD j false = false) : (l.setIfInBounds j true).toList.countP (! ·) + 1 = l.toList.countP (! ·) := by
  have hj : j < l.toList.length := by simpa using h
  have e : l.toList[j] = false := by
    simp only [Array.getD, h, dif_pos] at hf
    simpa using hf
  have hp : 0 < l.toList.countP (! ·) := List.countP_pos_iff.2 ⟨_, List.getElem_mem hj, by rw [e]; rfl⟩
  rw [Array.toList_setIfInBounds, List.countP_set hj, e]
  rw [if_pos (by rfl), if_neg (by decide)]
  omega
section
variable {P : Program} {md : Region.Mode} {ops : Array Oper} {Q : Exit → Act → World → Prop} {I : (Nat → Bool) → Act → World → Prop}
theorem wpAny_inv (hr : risesB md ops = true)
    (hs : ∀ j, j < ops.size → ∀ d a w, (∀ i ∈ depsOf md ops j, d i = true) → d j = false → I d a w → wpOp P ops Q j (fun b u => I (fun i => if j = i then true else d i) b u) a w)
    (he : ∀ d a w, (∀ j, j < ops.size → d j = true) → I d a w → Q .normal a w) :
    ∀ (fuel : Nat) (l : Array Bool) (a : Act) (w : World), l.size = ops.size → l.toList.countP (! ·) ≤ fuel → I (fun i => l.getD i false) a w → wpAny P md ops Q fuel l a w
  | 0, l, a, w, hl, hc, h => by
    have hall : ∀ j, j < ops.size → l.getD j false = true := fun j hj => by
      cases hd : l.getD j false with
      | true => rfl
      | false =>
        have := count_set l j (by omega) hd
        omega
    refine ⟨?_, he _ a w hall h⟩
    rw [List.eq_nil_iff_forall_not_mem]
    intro j hj
    obtain ⟨h1, h2, -⟩ := ready_of.1 hj
    rw [getD_tf l j (by omega), hall j h1] at h2
    cases h2
  | fuel + 1, l, a, w, hl, hc, h => by
    refine ⟨fun hn => he _ a w (none_ready hl hr hn) h, fun j hj => ?_⟩
    obtain ⟨h1, h2, h3⟩ := ready_of.1 hj
    rw [getD_tf l j (by omega)] at h2
    refine wpOp_mono (fun b u hb => ?_) (hs j h1 _ a w h3 h2 h)
    refine wpAny_inv hr hs he fuel _ b u (by simp [hl]) ?_ ?_
    · have := count_set l j (by omega) h2
      omega
    · rw [set_done l j (by omega)]
      exact hb
theorem wp_region_inv {id : Nat} {a : Act} {w : World} (hm : P.follows .mixedOrders = true) (hr : risesB .any ops = true) (h0 : I (fun _ => false) a w.drew)
    (hs : ∀ j, j < ops.size → ∀ d a w, (∀ i ∈ depsOf .any ops j, d i = true) → d j = false → I d a w → wpOp P ops Q j (fun b u => I (fun i => if j = i then true else d i) b u) a w)
    (he : ∀ d a w, (∀ j, j < ops.size → d j = true) → I d a w → Q .normal a w) : (Code.region id ops true).wp P Q a w := by
  refine wp_region_any hm (wpAny_inv hr hs he ops.size _ a w.drew (by simp) ?_ ?_)
  · refine Nat.le_trans (List.countP_le_length) ?_
    simp
  · have : (fun i => (Array.replicate ops.size false).getD i false) = fun _ => false := by
      funext i
      by_cases hi : i < ops.size
      · simp [Array.getD, hi]
      · simp [Array.getD, hi]
    rw [this]
    exact h0
theorem wpAnyIn_inv {F : Fence} {n : Nat} (hr : risesB md ops = true)
    (hs : ∀ j, j < ops.size → ∀ d a w, (∀ i ∈ depsOf md ops j, d i = true) → d j = false → I d a w → wpOpIn F n P ops Q j (fun b u => I (fun i => if j = i then true else d i) b u) a w)
    (he : ∀ d a w, (∀ j, j < ops.size → d j = true) → I d a w → Q .normal a w) :
    ∀ (fuel : Nat) (l : Array Bool) (a : Act) (w : World), l.size = ops.size → l.toList.countP (! ·) ≤ fuel → I (fun i => l.getD i false) a w → wpAnyIn F n P md ops Q fuel l a w
  | 0, l, a, w, hl, hc, h => by
    have hall : ∀ j, j < ops.size → l.getD j false = true := fun j hj => by
      cases hd : l.getD j false with
      | true => rfl
      | false =>
        have := count_set l j (by omega) hd
        omega
    refine ⟨?_, he _ a w hall h⟩
    rw [List.eq_nil_iff_forall_not_mem]
    intro j hj
    obtain ⟨h1, h2, -⟩ := ready_of.1 hj
    rw [getD_tf l j (by omega), hall j h1] at h2
    cases h2
  | fuel + 1, l, a, w, hl, hc, h => by
    refine ⟨fun hn => he _ a w (none_ready hl hr hn) h, fun j hj => ?_⟩
    obtain ⟨h1, h2, h3⟩ := ready_of.1 hj
    rw [getD_tf l j (by omega)] at h2
    refine wpOpIn_mono (fun b u hb => ?_) (hs j h1 _ a w h3 h2 h)
    refine wpAnyIn_inv hr hs he fuel _ b u (by simp [hl]) ?_ ?_
    · have := count_set l j (by omega) h2
      omega
    · rw [set_done l j (by omega)]
      exact hb
theorem wpIn_region_inv {F : Fence} {n : Nat} {id : Nat} {a : Act} {w : World} (hm : P.follows .mixedOrders = true) (hr : risesB .any ops = true) (h0 : I (fun _ => false) a w.drew)
    (hs : ∀ j, j < ops.size → ∀ d a w, (∀ i ∈ depsOf .any ops j, d i = true) → d j = false → I d a w → wpOpIn F n P ops Q j (fun b u => I (fun i => if j = i then true else d i) b u) a w)
    (he : ∀ d a w, (∀ j, j < ops.size → d j = true) → I d a w → Q .normal a w) : (Code.region id ops true).wpIn F n P Q a w := by
  refine wpIn_region_any hm (wpAnyIn_inv hr hs he ops.size _ a w.drew (by simp) ?_ ?_)
  · refine Nat.le_trans (List.countP_le_length) ?_
    simp
  · have : (fun i => (Array.replicate ops.size false).getD i false) = fun _ => false := by
      funext i
      by_cases hi : i < ops.size
      · simp [Array.getD, hi]
      · simp [Array.getD, hi]
    rw [this]
    exact h0
end
end Go.Proofs.Ytmbkdollakbigaa
