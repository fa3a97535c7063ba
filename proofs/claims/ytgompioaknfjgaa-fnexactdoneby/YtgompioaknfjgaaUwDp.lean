/- What is sorted and made compact is what is put in one by one: plain. -/
import Derived.Test.YtgompioaknfjgaaUwD
import Derived.Lib.SlicesCompact
namespace Go.Proofs.Ytgompioaknfjgaa
set_option maxRecDepth 100000
open Go Go.ChangeShapes Go.WideShapes Go.ChangeAt Go.RowKit
theorem strict_ext {a b : List Int} (ha : a.Pairwise (· < ·)) (hb : b.Pairwise (· < ·)) (h : ∀ x, x ∈ a ↔ x ∈ b) : a = b := by
  have na : a.Nodup := ha.imp (fun h => Int.ne_of_lt h)
  have nb : b.Nodup := hb.imp (fun h => Int.ne_of_lt h)
  exact sorted_eq (ha.imp (fun h => Int.le_of_lt h)) (hb.imp (fun h => Int.le_of_lt h)) ((List.perm_ext_iff_of_nodup na nb).2 h)
theorem comp_run (zs : List Int) (hs : zs.Pairwise (· ≤ ·)) : ∀ m, m ≤ zs.length → (Lib.compactUpTo zs.toArray m).Pairwise (· < ·) ∧ (∀ x ∈ Lib.compactUpTo zs.toArray m, ∃ j, ∃ h : j < zs.length, j < m ∧ zs[j] = x) ∧ (∀ j (h : j < zs.length), j < m → zs[j] ∈ Lib.compactUpTo zs.toArray m)
  | 0, _ => by
    have e : Lib.compactUpTo zs.toArray 0 = [] := rfl
    rw [e]
    refine ⟨List.Pairwise.nil, ?_, ?_⟩
    · intro x hx; simp at hx
    · intro j _ h; omega
  | m + 1, hm => by
    obtain ⟨h1, h2, h3⟩ := comp_run zs hs m (by omega)
    rw [Lib.compactUpTo_succ]
    have hd : ∀ j (h : j < zs.length), zs.toArray[j]! = zs[j] := fun j h => by simp [h]
    have hml : m < zs.length := hm
    by_cases hk : Lib.keeps zs.toArray m = true
    · rw [if_pos hk, hd m hml]
      refine ⟨?_, ?_, ?_⟩
      · rw [List.pairwise_append]
        refine ⟨h1, List.pairwise_singleton _ _, fun x hx y hy => ?_⟩
        obtain rfl : y = zs[m] := by simpa using hy
        obtain ⟨j, hj, hjm, rfl⟩ := h2 x hx
        have hle : zs[m - 1] ≤ zs[m] := by
          rw [List.pairwise_iff_getElem] at hs
          exact hs (m - 1) m (by omega) hml (by omega)
        have hle2 : zs[j] ≤ zs[m - 1] := by
          by_cases e : j = m - 1
          · subst e; exact Int.le_refl _
          · rw [List.pairwise_iff_getElem] at hs
            exact hs j (m - 1) hj (by omega) (by omega)
        have hne : zs[m] ≠ zs[m - 1] := fun e => by
          have := Lib.keeps_neg (d := zs.toArray) (m := m) (by omega) (by rw [hd m hml, hd (m - 1) (by omega), e])
          rw [this] at hk; cases hk
        omega
      · intro x hx
        rcases List.mem_append.1 hx with h | h
        · obtain ⟨j, hj, hjm, e⟩ := h2 x h
          exact ⟨j, hj, by omega, e⟩
        · obtain rfl : x = zs[m] := by simpa using h
          exact ⟨m, hml, by omega, rfl⟩
      · intro j hj hjm
        by_cases e : j = m
        · subst e; simp
        · exact List.mem_append_left _ (h3 j hj (by omega))
    · rw [if_neg hk, List.append_nil]
      refine ⟨h1, fun x hx => ?_, fun j hj hjm => ?_⟩
      · obtain ⟨j, hj, hjm, e⟩ := h2 x hx
        exact ⟨j, hj, by omega, e⟩
      · by_cases e : j = m
        · subst e
          have h0 : 0 < j := by
            rcases Nat.eq_zero_or_pos j with h | h
            · subst h; exact absurd (Lib.keeps_lt_one zs.toArray 0 (by omega)) hk
            · exact h
          have he : zs[j] = zs[j - 1] := by
            rcases Decidable.em (zs[j] = zs[j - 1]) with h | h
            · exact h
            · exact absurd (Lib.keeps_pos (d := zs.toArray) (m := j) (by rw [hd j hml, hd (j - 1) (by omega)]; exact h)) hk
          rw [he]
          exact h3 (j - 1) (by omega) (by omega)
        · exact h3 j hj (by omega)
theorem comp_strict {zs : List Int} (hs : zs.Pairwise (· ≤ ·)) : (Lib.compact zs).Pairwise (· < ·) ∧ ∀ x, x ∈ Lib.compact zs ↔ x ∈ zs := by
  obtain ⟨h1, h2, h3⟩ := comp_run zs hs zs.length (Nat.le_refl _)
  refine ⟨h1, fun x => ⟨fun h => ?_, fun h => ?_⟩⟩
  · obtain ⟨j, hj, -, rfl⟩ := h2 x h
    exact List.getElem_mem hj
  · obtain ⟨j, hj, rfl⟩ := List.getElem_of_mem h
    exact h3 j hj hj
theorem comp_len (zs : List Int) : (Lib.compact zs).length ≤ zs.length := by
  have e : Lib.compact zs = Lib.compactUpTo zs.toArray zs.length := rfl
  rw [e]
  unfold Lib.compactUpTo
  rw [List.length_map]
  exact Nat.le_trans (List.length_filter_le _ _) (by simp)
theorem putI_strict (x : Int) {S : List Int} (h : S.Pairwise (· < ·)) : (putI x S).Pairwise (· < ·) ∧ ∀ y, y ∈ putI x S ↔ y = x ∨ y ∈ S := by
  have hle := h.imp (S := (· ≤ ·)) (fun h => Int.le_of_lt h)
  have hs := putI_sorted x hle
  unfold putI at hs ⊢
  by_cases hx : x ∈ S
  · rw [if_pos hx] at hs ⊢
    exact ⟨h, fun y => ⟨fun hy => Or.inr hy, fun hy => by rcases hy with rfl | hy <;> assumption⟩⟩
  · rw [if_neg hx] at hs ⊢
    have hp := insN_perm x S
    have hn : (insN x S).Nodup := hp.nodup_iff.2 (List.nodup_cons.2 ⟨hx, h.imp (fun h => Int.ne_of_lt h)⟩)
    refine ⟨?_, fun y => hp.mem_iff.trans List.mem_cons⟩
    exact (hs.and hn).imp (fun h => by have := h.1; have := h.2; omega)
/-- those that are done, in the log's order -/
def whoD (l : List Nt) : List Int := (l.filter fun n => decide (n.kd = 3)).map (·.wh)
theorem dnF_mem (l : List Nt) : ∀ acc, acc.Pairwise (· < ·) → (dnF acc l).Pairwise (· < ·) ∧ ∀ x, x ∈ dnF acc l ↔ x ∈ acc ∨ x ∈ whoD l := by
  induction l with
  | nil => intro acc h; exact ⟨h, fun x => ⟨fun h => Or.inl h, fun h => h.resolve_right (fun h => by cases h)⟩⟩
  | cons n r ih =>
    intro acc h
    show (dnF (if n.kd = 3 then putI n.wh acc else acc) r).Pairwise (· < ·) ∧ ∀ x, x ∈ dnF (if n.kd = 3 then putI n.wh acc else acc) r ↔ _
    by_cases q : n.kd = 3
    · rw [if_pos q]
      obtain ⟨h1, h2⟩ := putI_strict n.wh h
      obtain ⟨h3, h4⟩ := ih _ h1
      refine ⟨h3, fun x => (h4 x).trans ?_⟩
      have e : whoD (n :: r) = n.wh :: whoD r := by unfold whoD; rw [List.filter_cons_of_pos (by simpa using q)]; rfl
      rw [h2 x, e, List.mem_cons]
      exact ⟨fun h => by rcases h with (h | h) | h <;> simp [h], fun h => by rcases h with h | h | h <;> simp [h]⟩
    · rw [if_neg q]
      obtain ⟨h3, h4⟩ := ih _ h
      have e : whoD (n :: r) = whoD r := by unfold whoD; rw [List.filter_cons_of_neg (by simpa using q)]
      rw [e]
      exact ⟨h3, h4⟩
theorem done_comp (l : List Nt) : Lib.compact (sortN (whoD l)) = dnF [] l := by
  obtain ⟨h1, h2⟩ := comp_strict (sortN_sorted (whoD l))
  obtain ⟨h3, h4⟩ := dnF_mem l [] List.Pairwise.nil
  refine strict_ext h1 h3 (fun x => ?_)
  rw [h2 x, h4 x, sortN_mem]
  exact ⟨fun h => Or.inr h, fun h => h.resolve_left (fun h => by cases h)⟩
theorem whoD_take (l : List Nt) (k : Nat) (h : k < l.length) : whoD (l.take (k + 1)) = if l[k].kd = 3 then whoD (l.take k) ++ [l[k].wh] else whoD (l.take k) := by
  unfold whoD
  rw [List.take_succ_eq_append_getElem h, List.filter_append, List.map_append]
  by_cases q : l[k].kd = 3
  · rw [if_pos q, List.filter_cons_of_pos (by simpa using q)]; rfl
  · rw [if_neg q, List.filter_cons_of_neg (by simpa using q)]; simp
theorem whoD_len (l : List Nt) : (whoD l).length ≤ l.length := by
  unfold whoD
  rw [List.length_map]
  exact List.length_filter_le _ _
end Go.Proofs.Ytgompioaknfjgaa
