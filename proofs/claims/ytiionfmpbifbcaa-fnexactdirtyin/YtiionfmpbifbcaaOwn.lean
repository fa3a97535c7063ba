/- Rows of structs and the rows that append leaves. -/
import Derived.Test.YtiionfmpbifbcaaHA
import Derived.Laws.AppendOwn
namespace Go.Proofs.Ytiionfmpbifbcaa
open Go Go.RowKit
theorem flat_len (s : Nat) : ∀ (rows : List (List Value)), (∀ i (hi : i < rows.length), rows[i].length = s) → rows.flatten.length = rows.length * s
  | [], _ => by simp
  | r :: rows, h => by
    have h0 : r.length = s := h 0 (by simp)
    have hr := flat_len s rows (fun i hi => h (i + 1) (by simpa using hi))
    rw [List.flatten_cons, List.length_append, hr, h0, List.length_cons, Nat.add_mul, Nat.one_mul]; omega
theorem flat_at (s : Nat) : ∀ (rows : List (List Value)), (∀ i (hi : i < rows.length), rows[i].length = s) → ∀ i (hi : i < rows.length) j, j < s → rows.flatten[i * s + j]? = rows[i][j]?
  | [], _, i, hi, _, _ => absurd hi (by simp)
  | r :: rows, h, 0, _, j, hj => by
    have h0 : r.length = s := h 0 (by simp)
    rw [Nat.zero_mul, Nat.zero_add, List.flatten_cons, List.getElem?_append_left (by omega)]; rfl
  | r :: rows, h, i + 1, hi, j, hj => by
    have h0 : r.length = s := h 0 (by simp)
    have hr := flat_at s rows (fun i hi => h (i + 1) (by simpa using hi)) i (by simpa using hi) j hj
    rw [List.flatten_cons, List.getElem?_append_right (by rw [h0, Nat.add_mul]; omega), h0, show (i + 1) * s + j - s = i * s + j by rw [Nat.add_mul]; omega, hr]
    rfl
theorem GRow.ofOwns {w : World} {base : Nat} {e : TypeId} {s n : Nat} {v : Value} {rows : List (List Value)} (hw : ∀ i (hi : i < rows.length), rows[i].length = s)
    (h : w.ownsRow base e s v n rows.flatten) (hn : n = rows.length) (hv : v ≠ .slice none 0 0) : ∃ R cap, v = .slice (some ⟨R, 0, none⟩) n cap ∧ base ≤ R ∧ GRow R s rows w := by
  obtain ⟨hl, h | ⟨g, cap, cur, rfl, hb, hg, h1, h2, h3, h4⟩⟩ := h
  · exact absurd h.1 hv
  · refine ⟨g, cap, rfl, hb, ?_⟩
    have hlt : g < w.heap.size := by
      rcases Nat.lt_or_ge g w.heap.size with h' | h'
      · exact h'
      · rw [Array.getElem?_eq_none h'] at hg; cases hg
    refine ⟨hlt, hw, fun i hi j hj => ?_, fun j _ => ?_⟩
    · rw [← flat_at s rows hw i hi j hj, ← h4]
      have hk := at_lt hi hj
      unfold World.cell?
      rw [hg]
      simp only [Option.isSome_none, Bool.false_eq_true, if_false]
      rw [List.getElem?_take, if_pos (by rw [hn]; exact hk), Array.getElem?_toList]
    · unfold World.frozen?
      rw [hg]
      simp
theorem GSl.news {s : Nat} {b off : Nat} {rows : List (List Value)} {w : World} (hs : 0 < s) (hw : ∀ i (hi : i < rows.length), rows[i].length = s)
    (hc : ∀ i (hi : i < rows.length) j, j < s → w.cell? ⟨b, off + i * s + j, none⟩ = rows[i][j]?) (j : Nat) (u : Value) (h : rows.flatten[j]? = some u) : w.cell? ((⟨b, off, none⟩ : Addr).add j) = some u := by
  have hlen := flat_len s rows hw
  have hj : j < rows.length * s := by
    rcases Nat.lt_or_ge j (rows.flatten.length) with h' | h'
    · omega
    · rw [List.getElem?_eq_none h'] at h; cases h
  have hi : j / s < rows.length := Nat.div_lt_of_lt_mul (by rw [Nat.mul_comm]; exact hj)
  have hm : j % s < s := Nat.mod_lt _ hs
  have he : j = j / s * s + j % s := by rw [Nat.mul_comm]; exact (Nat.div_add_mod j s).symm
  have := flat_at s rows hw (j / s) hi (j % s) hm
  rw [← he, h] at this
  have h2 := hc (j / s) hi (j % s) hm
  rw [← this] at h2
  have e : (⟨b, off, none⟩ : Addr).add j = ⟨b, off + j / s * s + j % s, none⟩ := by
    rw [WideShapes.add_plain]
    have : off + j = off + j / s * s + j % s := by omega
    rw [this]
  rw [e]
  exact h2
end Go.Proofs.Ytiionfmpbifbcaa
