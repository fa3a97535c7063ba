/- Layers of one's own whose row may grow. -/
import Derived.Test.YtiionfmpbifbcaaKApp
namespace Go.Proofs.Ytiionfmpbifbcaa
set_option maxRecDepth 100000
open Go Go.ChangeShapes Go.WideShapes Go.ChangeAt Go.RowKit
def kcells (z : Ly × LA) : List Value := [.int .i64 z.1.mark, .slice z.2.p z.1.bl.length z.2.c, .slice z.2.q z.1.dt.length z.2.d]
def kvals (L : List (Ly × LA)) : List Value := (L.map kcells).flatten
theorem kvals_snoc (L : List (Ly × LA)) (z : Ly × LA) : kvals (L ++ [z]) = kvals L ++ kcells z := by simp [kvals]
theorem kwide (L : List (Ly × LA)) (i : Nat) (hi : i < (L.map kcells).length) : (L.map kcells)[i].length = 3 := by rw [List.getElem_map]; rfl
/-- the block of a layer's blocks, of a layer's data -/
structure KG (lo : Nat) (v : Value) (L : List (Ly × LA)) (w : World) : Prop where
  row : w.ownsRow lo 79 3 v L.length (kvals L)
  ownB : ∀ i (h : i < L.length), L[i].1.bl = [] ∨ (lo ≤ L[i].2.f ∧ L[i].2.f < w.heap.size ∧ v.ownBlock ≠ some L[i].2.f ∧ L[i].2.p = some ⟨L[i].2.f, 0, none⟩ ∧ IRow L[i].2.f L[i].1.bl w)
  ownD : ∀ i (h : i < L.length), L[i].1.dt = [] ∨ (lo ≤ L[i].2.g ∧ L[i].2.g < w.heap.size ∧ v.ownBlock ≠ some L[i].2.g ∧ L[i].2.q = some ⟨L[i].2.g, 0, none⟩ ∧ SRow L[i].2.g L[i].1.dt w)
  bb : ∀ i j (h : i < L.length) (g : j < L.length), i ≠ j → L[i].1.bl ≠ [] → L[j].1.bl ≠ [] → L[i].2.f ≠ L[j].2.f
  dd : ∀ i j (h : i < L.length) (g : j < L.length), i ≠ j → L[i].1.dt ≠ [] → L[j].1.dt ≠ [] → L[i].2.g ≠ L[j].2.g
  bd : ∀ i j (h : i < L.length) (g : j < L.length), L[i].1.bl ≠ [] → L[j].1.dt ≠ [] → L[i].2.f ≠ L[j].2.g
theorem KG.nil (lo : Nat) (w : World) : KG lo (.slice none 0 0) [] w :=
  ⟨World.ownsRow_nil _ _ _ _, fun _ h => absurd h (Nat.not_lt_zero _), fun _ h => absurd h (Nat.not_lt_zero _), fun _ _ h => absurd h (Nat.not_lt_zero _), fun _ _ h => absurd h (Nat.not_lt_zero _), fun _ _ h => absurd h (Nat.not_lt_zero _)⟩
theorem KG.keep {lo : Nat} {v : Value} {L : List (Ly × LA)} {w w' : World} (h : KG lo v L w) (hs : w.heap.size ≤ w'.heap.size) (hb : ∀ X, lo ≤ X → X < w.heap.size → w'.heap[X]? = w.heap[X]?) : KG lo v L w' := by
  refine ⟨rw_keep h.row (fun k hk => hb k (h.row.lt k hk).1 (h.row.lt k hk).2), fun i hi => ?_, fun i hi => ?_, h.bb, h.dd, h.bd⟩
  · exact (h.ownB i hi).imp id (fun ⟨a1, a2, a3, a4, a5⟩ => ⟨a1, by omega, a3, a4, a5.same hs (hb _ a1 a2)⟩)
  · exact (h.ownD i hi).imp id (fun ⟨a1, a2, a3, a4, a5⟩ => ⟨a1, by omega, a3, a4, a5.same hs (hb _ a1 a2)⟩)
theorem KG.on {lo : Nat} {v : Value} {L : List (Ly × LA)} {w w' : World} (h : KG lo v L w) (g : Below w.heap.size w w') : KG lo v L w' := h.keep g.size (fun X _ hX => g.block X hX)
theorem KG.set {lo : Nat} {v : Value} {L : List (Ly × LA)} {w : World} (h : KG lo v L w) (X i : Nat) (u : Value) (hX : X < lo) : KG lo v L (w.setCell ⟨X, i, none⟩ u) := h.keep (by simp [World.setCell]) (fun Y hY _ => keepB _ _ _ _ _ (by omega))
theorem KG.low {lo lo' : Nat} {v : Value} {L : List (Ly × LA)} {w : World} (h : KG lo v L w) (hl : lo' ≤ lo) : KG lo' v L w :=
  ⟨rw_mono h.row hl, fun i hi => (h.ownB i hi).imp id (fun ⟨a1, a2⟩ => ⟨by omega, a2⟩), fun i hi => (h.ownD i hi).imp id (fun ⟨a1, a2⟩ => ⟨by omega, a2⟩), h.bb, h.dd, h.bd⟩
theorem KG.own {lo : Nat} {v : Value} {L : List (Ly × LA)} {w : World} (h : KG lo v L w) : ∃ a c, v = .slice a L.length c ∧ OwnK lo w.heap.size a (L.map (·.1)) w ∧ L.length ≤ c := by
  obtain ⟨a, c, rfl⟩ := rw_form h.row
  refine ⟨a, c, rfl, ?_, (rw_cap h.row).1⟩
  by_cases h0 : 0 < L.length
  · obtain ⟨R, cap, e, hR, hrow⟩ := GRow.ofOwns (rows := L.map kcells) (kwide L) h.row (by simp) (fun e => by injection e with e1 e2 e3; omega)
    injection e with e1 e2 e3
    subst e1
    refine Or.inr ⟨R, fun i => (L.getD i (⟨0, [], []⟩, ⟨none, 0, 0, none, 0, 0⟩)).2, rfl, ?_⟩
    have hA : ∀ i (hi : i < L.length), (L.getD i (⟨0, [], []⟩, ⟨none, 0, 0, none, 0, 0⟩)) = L[i] := fun i hi => by rw [List.getD_eq_getElem?_getD, List.getElem?_eq_getElem hi]; rfl
    refine ⟨hR, hrow.lt, Nat.le_refl _, fun i hi => ?_, fun j hj => ?_, fun i hi => ?_, fun i hi => ?_, fun i j hi hj => ?_, fun i j hi hj => ?_, fun i j hi hj => ?_⟩
    · have hi' : i < L.length := by simpa using hi
      have k0 := hrow.cell i (by simpa using hi) 0 (by decide)
      have k1 := hrow.cell i (by simpa using hi) 1 (by decide)
      have k2 := hrow.cell i (by simpa using hi) 2 (by decide)
      rw [List.getElem_map] at k0 k1 k2
      rw [List.getElem_map]
      simp only [hA i hi']
      exact ⟨k0, k1, k2⟩
    · exact hrow.free j (by simpa using hj)
    · have hi' : i < L.length := by simpa using hi
      rw [List.getElem_map]
      simp only [hA i hi']
      exact (h.ownB i hi').imp id (fun ⟨a1, a2, a3, a4, a5⟩ => ⟨a1, a2, fun e => a3 (by rw [e]; rfl), a4, a5⟩)
    · have hi' : i < L.length := by simpa using hi
      rw [List.getElem_map]
      simp only [hA i hi']
      exact (h.ownD i hi').imp id (fun ⟨a1, a2, a3, a4, a5⟩ => ⟨a1, a2, fun e => a3 (by rw [e]; rfl), a4, a5⟩)
    · have hi' : i < L.length := by simpa using hi
      have hj' : j < L.length := by simpa using hj
      rw [List.getElem_map, List.getElem_map]
      simp only [hA i hi', hA j hj']
      exact h.bb i j hi' hj'
    · have hi' : i < L.length := by simpa using hi
      have hj' : j < L.length := by simpa using hj
      rw [List.getElem_map, List.getElem_map]
      simp only [hA i hi', hA j hj']
      exact h.dd i j hi' hj'
    · have hi' : i < L.length := by simpa using hi
      have hj' : j < L.length := by simpa using hj
      rw [List.getElem_map, List.getElem_map]
      simp only [hA i hi', hA j hj']
      exact h.bd i j hi' hj'
  · have : L = [] := List.length_eq_zero_iff.1 (by omega)
    rw [this]
    exact Or.inl rfl
theorem snoc_at {α : Type} (L : List α) (z : α) (i : Nat) (h : i < (L ++ [z]).length) : (∃ h' : i < L.length, (L ++ [z])[i] = L[i]) ∨ (i = L.length ∧ (L ++ [z])[i] = z) := by
  by_cases e : i < L.length
  · exact Or.inl ⟨e, List.getElem_append_left e⟩
  · have : i = L.length := by simp at h; omega
    subst this
    exact Or.inr ⟨rfl, by simp⟩
/-- one more layer behind, its blocks and data new -/
theorem KG.grow {lo : Nat} {v : Value} {L : List (Ly × LA)} {w w1 : World} (h : KG lo v L w) (hlo : lo ≤ w.heap.size) (g : Below w.heap.size w w1) (X cX : Nat) (m : Int) (p q : Option Addr) (bl : List Int) (dt : List ByteArray) (c d : Nat)
    (hX : w1.heap[X]? = some (.cells #[.int .i64 m, .slice p bl.length c, .slice q dt.length d] 79)) (ho : OwnY w.heap.size w1.heap.size p q bl dt w1) (hn : L.length + 1 ≤ 10000) :
    ∃ v' w' a, (∀ ty, (Builtin.append_ #[28, 28] ty #[v, .slice (some ⟨X, 0, none⟩) 1 cX]).run Try.prog w1 = .ok v' w') ∧ KG lo v' (L ++ [(⟨m, bl, dt⟩, a)]) w' ∧ w1.grownBy w' v.ownBlock ∧ Below lo w1 w' := by
  have h1 := h.on g
  have hgs := g.size
  obtain ⟨v', w', r, o, gr, nb⟩ := app_ly w1 lo v L.length (kvals L) h1.row X cX m p bl.length c q dt.length d hX hn (by omega)
  obtain ⟨mid, m1, m2, hI, hS⟩ := ho
  obtain ⟨F, hF⟩ : ∃ F, bl = [] ∨ (w.heap.size ≤ F ∧ F < mid ∧ p = some ⟨F, 0, none⟩ ∧ IRow F bl w1) := by
    rcases hI with h0 | ⟨F, f1, f2, f3, f4⟩
    · exact ⟨0, Or.inl h0⟩
    · exact ⟨F, Or.inr ⟨f1, f2, f3, f4⟩⟩
  obtain ⟨G, hG⟩ : ∃ G, dt = [] ∨ (mid ≤ G ∧ G < w1.heap.size ∧ q = some ⟨G, 0, none⟩ ∧ SRow G dt w1) := by
    rcases hS with h0 | ⟨F, f1, f2, f3, f4⟩
    · exact ⟨0, Or.inl h0⟩
    · exact ⟨F, Or.inr ⟨f1, f2, f3, f4⟩⟩
  have hvb : ∀ Y, v.ownBlock = some Y → Y < w.heap.size := fun Y e => (h.row.lt Y e).2
  have hkb : ∀ Y, Y < w1.heap.size → v.ownBlock ≠ some Y → w'.heap[Y]? = w1.heap[Y]? := fun Y hY hne => gr.block Y hY (fun e => hne e.symm)
  have hnb : ∀ Y, Y < w1.heap.size → v.ownBlock ≠ some Y → v'.ownBlock ≠ some Y := fun Y hY hne e => by
    rcases nb with e2 | e2
    · exact hne (by rw [← e2]; exact e)
    · rw [e2] at e; injection e with e; omega
  have hsz := gr.size
  refine ⟨v', w', ⟨p, c, F, q, d, G⟩, r, ?_, gr, below_of_grown gr (by omega) (fun k hk => (h.row.lt k hk).1)⟩
  have hvF : w.heap.size ≤ F → v.ownBlock ≠ some F := fun h9 e => by have := hvb F e; omega
  have hvG : w.heap.size ≤ G → v.ownBlock ≠ some G := fun h9 e => by have := hvb G e; omega
  refine ⟨by rw [List.length_append, kvals_snoc]; exact o, fun i hi => ?_, fun i hi => ?_, fun i j hi hj hij => ?_, fun i j hi hj hij => ?_, fun i j hi hj => ?_⟩
  · rcases snoc_at L (⟨m, bl, dt⟩, ⟨p, c, F, q, d, G⟩) i hi with ⟨hi', e⟩ | ⟨_, e⟩
    · rw [e]
      exact (h1.ownB i hi').imp id (fun ⟨a1, a2, a3, a4, a5⟩ => ⟨a1, by omega, hnb _ a2 a3, a4, a5.same hsz (hkb _ a2 a3)⟩)
    · rw [e]
      rcases hF with h0 | ⟨f1, f2, f3, f4⟩
      · exact Or.inl h0
      · exact Or.inr ⟨by show lo ≤ F; omega, by show F < _; omega, hnb F (by omega) (hvF f1), f3, f4.same hsz (hkb F (by omega) (hvF f1))⟩
  · rcases snoc_at L (⟨m, bl, dt⟩, ⟨p, c, F, q, d, G⟩) i hi with ⟨hi', e⟩ | ⟨_, e⟩
    · rw [e]
      exact (h1.ownD i hi').imp id (fun ⟨a1, a2, a3, a4, a5⟩ => ⟨a1, by omega, hnb _ a2 a3, a4, a5.same hsz (hkb _ a2 a3)⟩)
    · rw [e]
      rcases hG with h0 | ⟨f1, f2, f3, f4⟩
      · exact Or.inl h0
      · exact Or.inr ⟨by show lo ≤ G; omega, by show G < _; omega, hnb G (by omega) (hvG (by omega)), f3, f4.same hsz (hkb G (by omega) (hvG (by omega)))⟩
  · rcases snoc_at L (⟨m, bl, dt⟩, ⟨p, c, F, q, d, G⟩) i hi with ⟨hi', e⟩ | ⟨ei, e⟩ <;> rcases snoc_at L (⟨m, bl, dt⟩, ⟨p, c, F, q, d, G⟩) j hj with ⟨hj', e'⟩ | ⟨ej, e'⟩ <;> rw [e, e'] <;> intro x1 x2
    · exact h.bb i j hi' hj' hij x1 x2
    · obtain ⟨_, a2, _⟩ := (h.ownB i hi').resolve_left x1
      obtain ⟨f1, _⟩ := hF.resolve_left x2
      show L[i].2.f ≠ F
      omega
    · obtain ⟨_, a2, _⟩ := (h.ownB j hj').resolve_left x2
      obtain ⟨f1, _⟩ := hF.resolve_left x1
      show F ≠ L[j].2.f
      omega
    · omega
  · rcases snoc_at L (⟨m, bl, dt⟩, ⟨p, c, F, q, d, G⟩) i hi with ⟨hi', e⟩ | ⟨ei, e⟩ <;> rcases snoc_at L (⟨m, bl, dt⟩, ⟨p, c, F, q, d, G⟩) j hj with ⟨hj', e'⟩ | ⟨ej, e'⟩ <;> rw [e, e'] <;> intro x1 x2
    · exact h.dd i j hi' hj' hij x1 x2
    · obtain ⟨_, a2, _⟩ := (h.ownD i hi').resolve_left x1
      obtain ⟨f1, _⟩ := hG.resolve_left x2
      show L[i].2.g ≠ G
      omega
    · obtain ⟨_, a2, _⟩ := (h.ownD j hj').resolve_left x2
      obtain ⟨f1, _⟩ := hG.resolve_left x1
      show G ≠ L[j].2.g
      omega
    · omega
  · rcases snoc_at L (⟨m, bl, dt⟩, ⟨p, c, F, q, d, G⟩) i hi with ⟨hi', e⟩ | ⟨ei, e⟩ <;> rcases snoc_at L (⟨m, bl, dt⟩, ⟨p, c, F, q, d, G⟩) j hj with ⟨hj', e'⟩ | ⟨ej, e'⟩ <;> rw [e, e'] <;> intro x1 x2
    · exact h.bd i j hi' hj' x1 x2
    · obtain ⟨_, a2, _⟩ := (h.ownB i hi').resolve_left x1
      obtain ⟨f1, _⟩ := hG.resolve_left x2
      show L[i].2.f ≠ G
      omega
    · obtain ⟨_, a2, _⟩ := (h.ownD j hj').resolve_left x2
      obtain ⟨f1, _⟩ := hF.resolve_left x1
      show F ≠ L[j].2.g
      omega
    · obtain ⟨_, f2, _⟩ := hF.resolve_left x1
      obtain ⟨g1, _⟩ := hG.resolve_left x2
      show F ≠ G
      omega
end Go.Proofs.Ytiionfmpbifbcaa
