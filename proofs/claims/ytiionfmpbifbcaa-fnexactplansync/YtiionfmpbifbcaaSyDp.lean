/- What is written behind a mark, plain. -/
import Derived.Test.YtiionfmpbifbcaaSyPut
import Derived.Test.YtiionfmpbifbcaaKPp
import Derived.Test.YtiionfmpbifbcaaKTk
import Derived.Lib.SlicesCompact
namespace Go.Proofs.Ytiionfmpbifbcaa
set_option maxRecDepth 100000
open Go Go.ChangeShapes Go.WideShapes Go.ChangeAt Go.RowKit
theorem strict_ext {a b : List Int} (ha : a.Pairwise (· < ·)) (hb : b.Pairwise (· < ·)) (h : ∀ x, x ∈ a ↔ x ∈ b) : a = b := by
  have na : a.Nodup := ha.imp (fun h => Int.ne_of_lt h)
  have nb : b.Nodup := hb.imp (fun h => Int.ne_of_lt h)
  exact sorted_eq (ha.imp (fun h => Int.le_of_lt h)) (hb.imp (fun h => Int.le_of_lt h)) ((List.perm_ext_iff_of_nodup na nb).2 h)
theorem comp_run (zs : List Int) (hs : zs.Pairwise (· ≤ ·)) : ∀ m, m ≤ zs.length → (Lib.compactUpTo zs.toArray m).Pairwise (· < ·) ∧ (∀ x ∈ Lib.compactUpTo zs.toArray m, ∃ j, ∃ h : j < zs.length, j < m ∧ zs[j] = x) ∧ (∀ j (h : j < zs.length), j < m → zs[j] ∈ Lib.compactUpTo zs.toArray m)
  | 0, _ => by
    have e : Lib.compactUpTo zs.toArray 0 = [] := rfl
    rw [e]
    refine ⟨List.Pairwise.nil, ?_, ?_⟩
    · intro x hx; simp at hx
    · intro j _ h; omega
  | m + 1, hm => by
    obtain ⟨h1, h2, h3⟩ := comp_run zs hs m (by omega)
    rw [Lib.compactUpTo_succ]
    have hd : ∀ j (h : j < zs.length), zs.toArray[j]! = zs[j] := fun j h => by simp [h]
    have hml : m < zs.length := hm
    by_cases hk : Lib.keeps zs.toArray m = true
    · rw [if_pos hk, hd m hml]
      refine ⟨?_, ?_, ?_⟩
      · rw [List.pairwise_append]
        refine ⟨h1, List.pairwise_singleton _ _, fun x hx y hy => ?_⟩
        obtain rfl : y = zs[m] := by simpa using hy
        obtain ⟨j, hj, hjm, rfl⟩ := h2 x hx
        have hle : zs[m - 1] ≤ zs[m] := by
          rw [List.pairwise_iff_getElem] at hs
          exact hs (m - 1) m (by omega) hml (by omega)
        have hle2 : zs[j] ≤ zs[m - 1] := by
          by_cases e : j = m - 1
          · subst e; exact Int.le_refl _
          · rw [List.pairwise_iff_getElem] at hs
            exact hs j (m - 1) hj (by omega) (by omega)
        have hne : zs[m] ≠ zs[m - 1] := fun e => by
          have := Lib.keeps_neg (d := zs.toArray) (m := m) (by omega) (by rw [hd m hml, hd (m - 1) (by omega), e])
          rw [this] at hk; cases hk
        omega
      · intro x hx
        rcases List.mem_append.1 hx with h | h
        · obtain ⟨j, hj, hjm, e⟩ := h2 x h
          exact ⟨j, hj, by omega, e⟩
        · obtain rfl : x = zs[m] := by simpa using h
          exact ⟨m, hml, by omega, rfl⟩
      · intro j hj hjm
        by_cases e : j = m
        · subst e; simp
        · exact List.mem_append_left _ (h3 j hj (by omega))
    · rw [if_neg hk, List.append_nil]
      refine ⟨h1, fun x hx => ?_, fun j hj hjm => ?_⟩
      · obtain ⟨j, hj, hjm, e⟩ := h2 x hx
        exact ⟨j, hj, by omega, e⟩
      · by_cases e : j = m
        · subst e
          have h0 : 0 < j := by
            rcases Nat.eq_zero_or_pos j with h | h
            · subst h; exact absurd (Lib.keeps_lt_one zs.toArray 0 (by omega)) hk
            · exact h
          have he : zs[j] = zs[j - 1] := by
            rcases Decidable.em (zs[j] = zs[j - 1]) with h | h
            · exact h
            · exact absurd (Lib.keeps_pos (d := zs.toArray) (m := j) (by rw [hd j hml, hd (j - 1) (by omega)]; exact h)) hk
          rw [he]
          exact h3 (j - 1) (by omega) (by omega)
        · exact h3 j hj (by omega)
theorem comp_strict {zs : List Int} (hs : zs.Pairwise (· ≤ ·)) : (Lib.compact zs).Pairwise (· < ·) ∧ ∀ x, x ∈ Lib.compact zs ↔ x ∈ zs := by
  obtain ⟨h1, h2, h3⟩ := comp_run zs hs zs.length (Nat.le_refl _)
  refine ⟨h1, fun x => ⟨fun h => ?_, fun h => ?_⟩⟩
  · obtain ⟨j, hj, -, rfl⟩ := h2 x h
    exact List.getElem_mem hj
  · obtain ⟨j, hj, rfl⟩ := List.getElem_of_mem h
    exact h3 j hj hj
theorem comp_len (zs : List Int) : (Lib.compact zs).length ≤ zs.length := by
  have e : Lib.compact zs = Lib.compactUpTo zs.toArray zs.length := rfl
  rw [e]
  unfold Lib.compactUpTo
  rw [List.length_map]
  exact Nat.le_trans (List.length_filter_le _ _) (by simp)
theorem putI_strict (x : Int) {S : List Int} (h : S.Pairwise (· < ·)) : (putI x S).Pairwise (· < ·) ∧ ∀ y, y ∈ putI x S ↔ y = x ∨ y ∈ S := by
  have hle := h.imp (S := (· ≤ ·)) (fun h => Int.le_of_lt h)
  have hs := putI_sorted x hle
  unfold putI at hs ⊢
  by_cases hx : x ∈ S
  · rw [if_pos hx] at hs ⊢
    exact ⟨h, fun y => ⟨fun hy => Or.inr hy, fun hy => by rcases hy with rfl | hy <;> assumption⟩⟩
  · rw [if_neg hx] at hs ⊢
    have hp := insN_perm x S
    have hn : (insN x S).Nodup := hp.nodup_iff.2 (List.nodup_cons.2 ⟨hx, h.imp (fun h => Int.ne_of_lt h)⟩)
    refine ⟨?_, fun y => hp.mem_iff.trans List.mem_cons⟩
    exact (hs.and hn).imp (fun h => by have := h.1; have := h.2; omega)
/-- the blocks that layers behind a mark have, one behind the other -/
def dirtL (S : List Ly) (m : Int) : List Int := (S.map fun y => if m < y.mark then y.bl else []).flatten
theorem dirtL_take (S : List Ly) (m : Int) (k : Nat) (h : k < S.length) : dirtL (S.take (k + 1)) m = dirtL (S.take k) m ++ (if m < S[k].mark then S[k].bl else []) := by
  unfold dirtL
  rw [take_snoc S k h, List.map_append, List.flatten_append]
  simp
theorem rise_fewS {l : List Int} (h : RiseOk l) : l.length ≤ 16 := by
  have ge : ∀ i (g : i < l.length), (i : Int) ≤ l[i] := by
    intro i
    induction i with
    | zero => intro g; have := (h 0 g).2.1; omega
    | succ i ih =>
      intro g
      have h1 := ih (by omega)
      have h2 := (h (i + 1) g).1
      rw [aheadI_at l i (by omega)] at h2
      omega
  rcases Nat.lt_or_ge 16 l.length with g | g
  · have h1 := ge 16 g
    have h2 := (h 16 g).2.2
    omega
  · exact g
theorem few_bl {S : List Ly} (h : GoodK S) (k : Nat) (hk : k < S.length) : S[k].bl.length ≤ 16 := rise_fewS ((h.2.2 k hk).2.2.2.1)
theorem dirtL_len {S : List Ly} (h : GoodK S) (m : Int) : ∀ k, k ≤ S.length → (dirtL (S.take k) m).length ≤ 16 * k
  | 0, _ => by simp [dirtL]
  | k + 1, hk => by
    have ih := dirtL_len h m k (by omega)
    have hf := few_bl h k (by omega)
    rw [dirtL_take S m k (by omega), List.length_append]
    split
    · omega
    · simp; omega
/-- numbers put in one by one -/
def putsI (acc l : List Int) : List Int := l.foldl (fun s x => putI x s) acc
theorem putsI_app (acc l k : List Int) : putsI acc (l ++ k) = putsI (putsI acc l) k := by unfold putsI; rw [List.foldl_append]
theorem putsI_take (acc l : List Int) (j : Nat) (h : j < l.length) : putsI acc (l.take (j + 1)) = putI l[j] (putsI acc (l.take j)) := by
  rw [take_snoc l j h, putsI_app]
  rfl
theorem putsI_len (l : List Int) : ∀ acc, (putsI acc l).length ≤ acc.length + l.length := by
  induction l with
  | nil => intro acc; exact Nat.le_refl _
  | cons x r ih =>
    intro acc
    have h1 := ih (putI x acc)
    have h2 := putI_len x acc
    show (putsI (putI x acc) r).length ≤ acc.length + (r.length + 1)
    omega
theorem putsI_strict (l : List Int) : ∀ acc, acc.Pairwise (· < ·) → (putsI acc l).Pairwise (· < ·) ∧ ∀ x, x ∈ putsI acc l ↔ x ∈ acc ∨ x ∈ l := by
  induction l with
  | nil => intro acc h; exact ⟨h, fun x => by show x ∈ acc ↔ _; simp⟩
  | cons y r ih =>
    intro acc h
    obtain ⟨h1, h2⟩ := putI_strict y h
    obtain ⟨h3, h4⟩ := ih _ h1
    refine ⟨h3, fun x => ?_⟩
    show x ∈ putsI (putI y acc) r ↔ _
    rw [h4, h2, List.mem_cons]
    constructor
    · rintro ((h | h) | h)
      · exact Or.inr (Or.inl h)
      · exact Or.inl h
      · exact Or.inr (Or.inr h)
    · rintro (h | h | h)
      · exact Or.inl (Or.inr h)
      · exact Or.inl (Or.inl h)
      · exact Or.inr h
theorem putsI_sorted (acc l : List Int) (h : acc.Pairwise (· < ·)) : (putsI acc l).Pairwise (· ≤ ·) := (putsI_strict l acc h).1.imp (fun h => Int.le_of_lt h)
theorem puts_comp (l : List Int) : Lib.compact (sortN l) = putsI [] l := by
  obtain ⟨h1, h2⟩ := comp_strict (sortN_sorted l)
  obtain ⟨h3, h4⟩ := putsI_strict l [] List.Pairwise.nil
  refine strict_ext h1 h3 fun x => ?_
  rw [h2, h4, (sortN_perm l).mem_iff]
  simp
/-- what DirtyIn answers -/
def DirtOk (S : List Ly) (m : Int) : Prop := GoodK S ∧ fndK S m < S.length
instance (S : List Ly) (m : Int) : Decidable (DirtOk S m) := by unfold DirtOk; infer_instance
def dirtP (S : List Ly) (m : Int) : List Int := putsI [] (dirtL S m)
def dirtV (S : List Ly) (m : Int) : List Int := if DirtOk S m then dirtP S m else []
theorem dirtP_len {S : List Ly} (h : GoodK S) (m : Int) : (dirtP S m).length ≤ 128 := by
  have h1 := putsI_len (dirtL S m) []
  have h2 := dirtL_len h m S.length (Nat.le_refl _)
  rw [List.take_length] at h2
  have h3 := h.2.1
  unfold dirtP
  simp only [List.length_nil] at h1
  omega
theorem dirtV_len (S : List Ly) (m : Int) : (dirtV S m).length ≤ 1048576 := by
  unfold dirtV
  split
  · rename_i h; have := dirtP_len h.1 m; omega
  · simp
end Go.Proofs.Ytiionfmpbifbcaa
