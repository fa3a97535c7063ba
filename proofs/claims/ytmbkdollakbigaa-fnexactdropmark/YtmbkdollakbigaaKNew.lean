/- Both sides' NewMarks. -/
import Derived.Test.YtmbkdollakbigaaKWith
import Derived.Test.YtmbkdollakbigaaHA
namespace Go.Proofs.Ytmbkdollakbigaa
set_option maxRecDepth 100000
open Go Go.ChangeShapes Go.WideShapes Go.ChangeAt Go.RowKit
set_option maxHeartbeats 400000 in
theorem copyLayers_nil (a : Option Addr) (cap : Nat) (w : World) : Calls Try.prog 37 #[.slice a 0 cap] w fun e w' => CpK [] w e w' := by
  go_enter Try.func37, Try.ntmps37
  go_wp2
  go_loop [3, 8] (fun t i => t = .slice none 0 0 ∧ i = .int .i64 0) (fun _ _ => 0)
  case atStart => exact ⟨rfl, rfl⟩
  case round =>
    obtain ⟨rfl, rfl⟩ := hrel
    go_wp2
    go_ret
    exact ⟨_, [], rfl, rfl, KG.nil _ _, Below.refl _ _⟩
theorem MOut.owns {o : Option (List Ly)} {w : World} {e : Ending} {w' : World} (h : MOut o w e w') : ∃ b c, e = .returned (.tuple #[.agg #[.slice b (o.getD []).length c], .bool o.isSome]) ∧ OwnK w.heap.size w'.heap.size b (o.getD []) w' ∧ Below w.heap.size w w' := by
  cases o with
  | none => obtain ⟨h1, h2⟩ := h; exact ⟨none, 0, h1, Or.inl rfl, h2⟩
  | some V => obtain ⟨b, c, h1, h2, h3, _⟩ := h; exact ⟨b, c, h1, h2, h3⟩
/-- marks and true that can be read, or nothing and false -/
def MSay (o : Option (List Ly)) (w : World) (e : Ending) (w' : World) : Prop := match o with
  | some V => ∃ b c, e = .returned (.tuple #[.agg #[.slice b V.length c], .bool true]) ∧ Ys w'.heap.size b V w' ∧ Below w.heap.size w w'
  | none => e = .returned (.tuple #[.agg #[.slice none 0 0], .bool false]) ∧ Below w.heap.size w w'
theorem MSay.says {o : Option (List Ly)} {w : World} {e : Ending} {w' : World} (h : MSay o w e w') : ∃ b c, e = .returned (.tuple #[.agg #[.slice b (o.getD []).length c], .bool o.isSome]) ∧ Ys w'.heap.size b (o.getD []) w' ∧ Below w.heap.size w w' := by
  cases o with
  | none => obtain ⟨h1, h2⟩ := h; exact ⟨none, 0, h1, fun h0 => absurd h0 (by simp), h2⟩
  | some V => obtain ⟨b, c, h1, h2, h3⟩ := h; exact ⟨b, c, h1, h2, h3⟩
theorem wt_snoc (S : List Ly) (y : Ly) : wtK (S ++ [y]) = wtK S + wtY y := by unfold wtK; rw [List.map_append, List.sum_append_nat]; simp
theorem wt_le (S : List Ly) (hy : ∀ y ∈ S, wtY y ≤ 33) : wtK S ≤ S.length * 33 := by
  unfold wtK
  induction S with
  | nil => exact Nat.zero_le _
  | cons y l ih =>
    rw [List.map_cons, List.sum_cons, List.length_cons]
    have h1 := hy y (by simp)
    have h2 := ih (fun z hz => hy z (List.mem_cons_of_mem _ hz))
    omega
theorem good_wt {S : List Ly} (h : GoodK S) : wtK S ≤ 400 := by
  obtain ⟨_, h8, hall⟩ := h
  have hy : ∀ y ∈ S, wtY y ≤ 33 := fun y hy => by
    obtain ⟨k, hk, rfl⟩ := List.getElem_of_mem hy
    obtain ⟨_, _, _, hr, hl, _⟩ := hall k hk
    have hb : S[k].bl.length ≤ 16 := by
      have key : ∀ n, n ≤ S[k].bl.length → ∀ (h : n - 1 < S[k].bl.length), 0 < n → (n : Int) - 1 ≤ S[k].bl[n - 1] := by
        intro n
        induction n with
        | zero => intro _ _ h0; exact absurd h0 (Nat.lt_irrefl _)
        | succ n ih =>
          intro hn h _
          rcases Nat.eq_zero_or_pos n with rfl | h0
          · have := (hr 0 (by omega)).2.1
            show ((0 + 1 : Nat) : Int) - 1 ≤ S[k].bl[0]
            omega
          · obtain ⟨i, rfl⟩ : ∃ i, n = i + 1 := ⟨n - 1, by omega⟩
            have h1 := ih (by omega) (by omega) (by omega)
            have h2 := (hr (i + 1) (by omega)).1
            rw [aheadI_at _ _ (by omega)] at h2
            show ((i + 1 + 1 : Nat) : Int) - 1 ≤ S[k].bl[i + 1]
            have h3 : ((i + 1 : Nat) : Int) - 1 ≤ S[k].bl[i] := h1
            omega
      rcases Nat.eq_zero_or_pos S[k].bl.length with h0 | h0
      · omega
      · have h1 := key S[k].bl.length (Nat.le_refl _) (by omega) h0
        have h2 := (hr (S[k].bl.length - 1) (by omega)).2.2
        omega
    unfold wtY
    omega
  have := wt_le S hy
  omega
theorem good_fit {S : List Ly} (h : GoodK S) : FitK S := by have := good_wt h; unfold FitK; omega
theorem withK_fit (S : List Ly) (m : Int) (_h : True) : FitK ((withK S m).getD []) := by
  unfold withK
  split
  · rename_i h; exact good_fit (goodK_iff.1 h)
  · show wtK [] ≤ _; decide
theorem withK_nil (m : Int) : withK [] m = if 0 ≤ m ∧ m ≤ 200 then some [⟨m, [], []⟩] else none := by
  unfold withK
  by_cases h : 0 ≤ m ∧ m ≤ 200
  · rw [if_pos h, if_pos]
    · rfl
    · refine goodK_iff.2 ⟨Nat.le_refl 1, show 1 ≤ 8 by omega, fun k hk => ?_⟩
      have : k = 0 := by simpa using hk
      subst this
      exact ⟨show (-1 : Int) < m by omega, h.1, h.2, (fun j hj => absurd hj (Nat.not_lt_zero _)), rfl, (fun j hj => absurd hj (Nat.not_lt_zero _))⟩
  · rw [if_neg h, if_neg]
    intro g
    have := (goodK_iff.1 g).2.2 0 (Nat.zero_lt_one)
    exact h ⟨this.2.1, this.2.2.1⟩
end Go.Proofs.Ytmbkdollakbigaa
