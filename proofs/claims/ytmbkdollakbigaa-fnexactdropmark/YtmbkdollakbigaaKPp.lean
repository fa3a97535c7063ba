/- A block put among a layer's: plain. -/
import Derived.Test.YtmbkdollakbigaaHA
import Derived.Test.YtmbkdollakbigaaASort
namespace Go.Proofs.Ytmbkdollakbigaa
set_option maxRecDepth 100000
theorem sorted_eqK {a b : List Int} (ha : a.Pairwise (· ≤ ·)) (hb : b.Pairwise (· ≤ ·)) (h : a.Perm b) : a = b := sorted_eq ha hb h
theorem strict_extK {a b : List Int} (ha : a.Pairwise (· < ·)) (hb : b.Pairwise (· < ·)) (h : ∀ x, x ∈ a ↔ x ∈ b) : a = b := by
  have na : a.Nodup := ha.imp (fun h => Int.ne_of_lt h)
  have nb : b.Nodup := hb.imp (fun h => Int.ne_of_lt h)
  exact sorted_eq (ha.imp (fun h => Int.le_of_lt h)) (hb.imp (fun h => Int.le_of_lt h)) ((List.perm_ext_iff_of_nodup na nb).2 h)
/-- a block put in where it is not -/
def insU (b : Int) : List Int → List Int
  | [] => [b]
  | x :: r => if x < b then x :: insU b r else if x = b then x :: r else b :: x :: r
/-- how many lead that are less -/
def lesN (b : Int) : List Int → Nat
  | [] => 0
  | x :: r => if x < b then lesN b r + 1 else 0
theorem lesN_le (b : Int) : ∀ l : List Int, lesN b l ≤ l.length
  | [] => Nat.le_refl _
  | x :: r => by
    have := lesN_le b r
    show (if x < b then lesN b r + 1 else 0) ≤ r.length + 1
    by_cases h : x < b
    · rw [if_pos h]; omega
    · rw [if_neg h]; omega
theorem lesN_at (b : Int) : ∀ (l : List Int) (k : Nat), k ≤ lesN b l → (k < lesN b l → ∃ h : k < l.length, l[k] < b) ∧ (k = lesN b l → ∀ h : k < l.length, b ≤ l[k])
  | [], k, hk => ⟨fun h => absurd h (Nat.not_lt_zero _), fun _ h => absurd h (Nat.not_lt_zero _)⟩
  | x :: r, k, hk => by
    have e : lesN b (x :: r) = if x < b then lesN b r + 1 else 0 := rfl
    rw [e] at hk ⊢
    by_cases hx : x < b
    · rw [if_pos hx] at hk ⊢
      cases k with
      | zero => exact ⟨fun _ => ⟨by simp, hx⟩, fun h => by omega⟩
      | succ k =>
        obtain ⟨h1, h2⟩ := lesN_at b r k (by omega)
        refine ⟨fun h => ?_, fun h hl => ?_⟩
        · obtain ⟨h3, h4⟩ := h1 (by omega)
          exact ⟨by simp; omega, by simpa using h4⟩
        · have := h2 (by omega) (by simpa using hl)
          simpa using this
    · rw [if_neg hx] at hk ⊢
      obtain rfl : k = 0 := by omega
      exact ⟨fun h => absurd h (Nat.not_lt_zero _), fun _ _ => by simp; omega⟩
theorem insU_mem (b : Int) : ∀ (l : List Int) (y : Int), y ∈ insU b l ↔ y = b ∨ y ∈ l
  | [], y => by simp [insU]
  | x :: r, y => by
    have ih := insU_mem b r y
    show y ∈ (if x < b then x :: insU b r else if x = b then x :: r else b :: x :: r) ↔ _
    by_cases h1 : x < b
    · rw [if_pos h1, List.mem_cons, ih, List.mem_cons]
      exact ⟨fun h => by rcases h with h | h | h <;> simp [h], fun h => by rcases h with h | h | h <;> simp [h]⟩
    · rw [if_neg h1]
      by_cases h2 : x = b
      · rw [if_pos h2, List.mem_cons]
        refine ⟨fun h => Or.inr h, fun h => ?_⟩
        rcases h with h | h
        · exact Or.inl (h.trans h2.symm)
        · exact h
      · rw [if_neg h2, List.mem_cons]
theorem insU_strict (b : Int) : ∀ (l : List Int), l.Pairwise (· < ·) → (insU b l).Pairwise (· < ·)
  | [], _ => by simp [insU]
  | x :: r, h => by
    obtain ⟨h1, h2⟩ := List.pairwise_cons.1 h
    have ih := insU_strict b r h2
    show (if x < b then x :: insU b r else if x = b then x :: r else b :: x :: r).Pairwise (· < ·)
    by_cases q1 : x < b
    · rw [if_pos q1, List.pairwise_cons]
      refine ⟨fun y hy => ?_, ih⟩
      rcases (insU_mem b r y).1 hy with rfl | hy
      · exact q1
      · exact h1 y hy
    · rw [if_neg q1]
      by_cases q2 : x = b
      · rw [if_pos q2]; exact h
      · rw [if_neg q2, List.pairwise_cons]
        refine ⟨fun y hy => ?_, h⟩
        rcases List.mem_cons.1 hy with rfl | hy
        · omega
        · have := h1 y hy; omega
theorem insU_there (b : Int) : ∀ (l : List Int), lesN b l < l.length → l.getD (lesN b l) 0 = b → insU b l = l
  | [], h, _ => absurd h (Nat.not_lt_zero _)
  | x :: r, h, hg => by
    have e : lesN b (x :: r) = if x < b then lesN b r + 1 else 0 := rfl
    rw [e] at h hg
    show (if x < b then x :: insU b r else if x = b then x :: r else b :: x :: r) = _
    by_cases q1 : x < b
    · rw [if_pos q1] at h hg ⊢
      rw [insU_there b r (by simpa using h) (by simpa using hg)]
    · rw [if_neg q1] at h hg ⊢
      rw [if_pos (by simpa using hg)]
theorem insU_new (b : Int) : ∀ (l : List Int), (lesN b l < l.length → l.getD (lesN b l) 0 ≠ b) → insU b l = l.take (lesN b l) ++ b :: l.drop (lesN b l)
  | [], _ => rfl
  | x :: r, h => by
    have e : lesN b (x :: r) = if x < b then lesN b r + 1 else 0 := rfl
    rw [e] at h ⊢
    show (if x < b then x :: insU b r else if x = b then x :: r else b :: x :: r) = _
    by_cases q1 : x < b
    · rw [if_pos q1] at h ⊢
      rw [if_pos q1, insU_new b r (fun hl => by simpa using h (by simpa using hl))]
      simp
    · rw [if_neg q1] at h ⊢
      have := h (by simp)
      rw [if_neg q1, if_neg (by simpa using this)]
      simp
theorem map_there (T : Int → ByteArray) (b : Int) (s : ByteArray) (l : List Int) (hs : l.Pairwise (· < ·)) (k : Nat) (hk : k < l.length) (hb : l[k] = b) : (l.map T).set k s = l.map (fun y => if b = y then s else T y) := by
  apply List.ext_getElem (by simp)
  intro i h1 h2
  have hi : i < l.length := by simpa using h2
  rw [List.getElem_set, List.getElem_map, List.getElem_map]
  by_cases e : k = i
  · subst e; rw [if_pos rfl, if_pos hb.symm]
  · rw [if_neg e, if_neg]
    intro h
    have hbi : l[i] = l[k] := by rw [hb]; exact h.symm
    rw [List.pairwise_iff_getElem] at hs
    rcases Nat.lt_or_gt_of_ne e with h3 | h3
    · have := hs k i hk hi h3; omega
    · have := hs i k hi hk h3; omega
theorem map_not (T : Int → ByteArray) (b : Int) (s : ByteArray) (l : List Int) (h : b ∉ l) : l.map (fun y => if b = y then s else T y) = l.map T := by
  apply List.map_congr_left
  intro y hy
  rw [if_neg (fun e => h (by rw [e]; exact hy))]
theorem not_mem_new (b : Int) (l : List Int) (hs : l.Pairwise (· < ·)) (h : lesN b l < l.length → l.getD (lesN b l) 0 ≠ b) : b ∉ l := by
  intro hm
  obtain ⟨j, hj, e⟩ := List.getElem_of_mem hm
  obtain ⟨h1, h2⟩ := lesN_at b l (lesN b l) (Nat.le_refl _)
  have hle := lesN_le b l
  rcases Nat.lt_trichotomy j (lesN b l) with h3 | h3 | h3
  · obtain ⟨q1, -⟩ := lesN_at b l j (by omega)
    obtain ⟨_, h4⟩ := q1 h3
    omega
  · subst h3
    have := h hj
    rw [List.getD_eq_getElem?_getD, List.getElem?_eq_getElem hj] at this
    exact this e
  · have hl : lesN b l < l.length := by omega
    have h4 := h2 rfl hl
    rw [List.pairwise_iff_getElem] at hs
    have := hs (lesN b l) j hl hj h3
    omega
end Go.Proofs.Ytmbkdollakbigaa
