/- Layers that are owned: the row, and each one's blocks and data, each in a block apart. -/
import Derived.Test.YtiionfmpbifbcaaKEq
namespace Go.Proofs.Ytiionfmpbifbcaa
set_option maxRecDepth 100000
open Go Go.ChangeShapes Go.WideShapes Go.ChangeAt Go.RowKit
def updA {α : Type} (f : Nat → α) (k : Nat) (x : α) : Nat → α := fun i => if i = k then x else f i
theorem updA_same {α : Type} (f : Nat → α) (k : Nat) (x : α) : updA f k x k = x := by simp [updA]
theorem updA_other {α : Type} (f : Nat → α) (k i : Nat) (x : α) (h : i ≠ k) : updA f k x i = f i := by simp [updA, h]
/-- where a layer's blocks and data lie -/
structure LA where
  p : Option Addr
  c : Nat
  f : Nat
  q : Option Addr
  d : Nat
  g : Nat
structure LyOwn (lo hi R : Nat) (A : Nat → LA) (S : List Ly) (w : World) : Prop where
  r0 : lo ≤ R
  r1 : R < hi
  r2 : hi ≤ w.heap.size
  cell : ∀ i (h : i < S.length), w.cell? ⟨R, i * 3, none⟩ = some (.int .i64 S[i].mark) ∧ w.cell? ⟨R, i * 3 + 1, none⟩ = some (.slice (A i).p S[i].bl.length (A i).c) ∧ w.cell? ⟨R, i * 3 + 2, none⟩ = some (.slice (A i).q S[i].dt.length (A i).d)
  free : ∀ j, j < S.length * 3 → w.frozen? ⟨R, j, none⟩ = false
  ownB : ∀ i (h : i < S.length), S[i].bl = [] ∨ (lo ≤ (A i).f ∧ (A i).f < hi ∧ (A i).f ≠ R ∧ (A i).p = some ⟨(A i).f, 0, none⟩ ∧ IRow (A i).f S[i].bl w)
  ownD : ∀ i (h : i < S.length), S[i].dt = [] ∨ (lo ≤ (A i).g ∧ (A i).g < hi ∧ (A i).g ≠ R ∧ (A i).q = some ⟨(A i).g, 0, none⟩ ∧ SRow (A i).g S[i].dt w)
  bb : ∀ i j (h : i < S.length) (g : j < S.length), i ≠ j → S[i].bl ≠ [] → S[j].bl ≠ [] → (A i).f ≠ (A j).f
  dd : ∀ i j (h : i < S.length) (g : j < S.length), i ≠ j → S[i].dt ≠ [] → S[j].dt ≠ [] → (A i).g ≠ (A j).g
  bd : ∀ i j (h : i < S.length) (g : j < S.length), S[i].bl ≠ [] → S[j].dt ≠ [] → (A i).f ≠ (A j).g
section
variable {lo hi R : Nat} {A : Nat → LA} {S : List Ly} {w : World}
theorem LyOwn.fB (h : LyOwn lo hi R A S w) (i : Nat) (hi' : i < S.length) (e : S[i].bl ≠ []) : lo ≤ (A i).f ∧ (A i).f < hi ∧ (A i).f ≠ R ∧ (A i).p = some ⟨(A i).f, 0, none⟩ ∧ IRow (A i).f S[i].bl w := (h.ownB i hi').resolve_left e
theorem LyOwn.fD (h : LyOwn lo hi R A S w) (i : Nat) (hi' : i < S.length) (e : S[i].dt ≠ []) : lo ≤ (A i).g ∧ (A i).g < hi ∧ (A i).g ≠ R ∧ (A i).q = some ⟨(A i).g, 0, none⟩ ∧ SRow (A i).g S[i].dt w := (h.ownD i hi').resolve_left e
theorem LyOwn.ys (h : LyOwn lo hi R A S w) : Ys w.heap.size (some ⟨R, 0, none⟩) S w := fun _ => by
  have := h.r1; have := h.r2
  refine ⟨R, 0, rfl, by omega, fun i hi => ?_⟩
  obtain ⟨h1, h2, h3⟩ := h.cell i hi
  refine ⟨(A i).p, (A i).c, (A i).q, (A i).d, by rw [Nat.zero_add]; exact h1, by rw [Nat.zero_add]; exact h2, by rw [Nat.zero_add]; exact h3, ?_, ?_⟩
  · rcases h.ownB i hi with h0 | ⟨_, h4, _, h6, h7⟩
    · rw [h0]; exact ⟨fun h0 => absurd h0 (by simp)⟩
    · rw [h6]; exact h7.sl (by omega)
  · rcases h.ownD i hi with h0 | ⟨_, h4, _, h6, h7⟩
    · rw [h0]; exact ⟨fun h0 => absurd h0 (by simp)⟩
    · rw [h6]; exact h7.sl (by omega)
/-- nothing of what is owned has turned -/
theorem LyOwn.keep (h : LyOwn lo hi R A S w) {w' : World} (hs : w.heap.size ≤ w'.heap.size) (hb : ∀ X, lo ≤ X → X < hi → w'.heap[X]? = w.heap[X]?) : LyOwn lo hi R A S w' := by
  have hR := hb R h.r0 h.r1
  have hc : ∀ o, w'.cell? ⟨R, o, none⟩ = w.cell? ⟨R, o, none⟩ := fun o => by unfold World.cell?; simp only [hR]
  have hf : ∀ o, w'.frozen? ⟨R, o, none⟩ = w.frozen? ⟨R, o, none⟩ := fun o => by unfold World.frozen?; simp only [hR]
  refine ⟨h.r0, h.r1, Nat.le_trans h.r2 hs, fun i hi => ?_, fun j hj => (hf _).trans (h.free j hj), fun i hi => ?_, fun i hi => ?_, h.bb, h.dd, h.bd⟩
  · rw [hc, hc, hc]; exact h.cell i hi
  · rcases h.ownB i hi with h0 | ⟨h3, h4, h5, h6, h7⟩
    · exact Or.inl h0
    · exact Or.inr ⟨h3, h4, h5, h6, h7.same hs (hb _ h3 h4)⟩
  · rcases h.ownD i hi with h0 | ⟨h3, h4, h5, h6, h7⟩
    · exact Or.inl h0
    · exact Or.inr ⟨h3, h4, h5, h6, h7.same hs (hb _ h3 h4)⟩
theorem LyOwn.on (h : LyOwn lo hi R A S w) {w' : World} (g : Below w.heap.size w w') : LyOwn lo hi R A S w' := h.keep g.size (fun X _ h1 => g.block X (Nat.lt_of_lt_of_le h1 h.r2))
theorem LyOwn.out (h : LyOwn lo hi R A S w) {w' : World} {l2 h2 : Nat} (g : Out l2 h2 w w') (hd : hi ≤ l2 ∨ h2 ≤ lo) : LyOwn lo hi R A S w' := h.keep g.size (fun X h0 h1 => g.block X (Nat.lt_of_lt_of_le h1 h.r2) (by omega))
/-- another layer in the place of the k-th, in new memory or in its own -/
theorem LyOwn.put (h : LyOwn lo hi R A S w) (k : Nat) (hk : k < S.length) (y : Ly) (a : LA) (hi' : Nat) (w' : World) (hh : hi ≤ hi') (hs : hi' ≤ w'.heap.size) (hsz : w.heap.size ≤ w'.heap.size)
    (c0 : w'.cell? ⟨R, k * 3, none⟩ = some (.int .i64 y.mark)) (c1 : w'.cell? ⟨R, k * 3 + 1, none⟩ = some (.slice a.p y.bl.length a.c)) (c2 : w'.cell? ⟨R, k * 3 + 2, none⟩ = some (.slice a.q y.dt.length a.d))
    (co : ∀ o, o < k * 3 ∨ k * 3 + 3 ≤ o → w'.cell? ⟨R, o, none⟩ = w.cell? ⟨R, o, none⟩) (fr : ∀ o, w'.frozen? ⟨R, o, none⟩ = w.frozen? ⟨R, o, none⟩)
    (rows : ∀ X, lo ≤ X → X < hi → X ≠ R → (S[k].bl ≠ [] → X ≠ (A k).f) → (S[k].dt ≠ [] → X ≠ (A k).g) → w'.heap[X]? = w.heap[X]?)
    (nb : y.bl = [] ∨ (lo ≤ a.f ∧ a.f < hi' ∧ a.f ≠ R ∧ a.p = some ⟨a.f, 0, none⟩ ∧ IRow a.f y.bl w' ∧ (hi ≤ a.f ∨ (a.f = (A k).f ∧ S[k].bl ≠ []))))
    (nd : y.dt = [] ∨ (lo ≤ a.g ∧ a.g < hi' ∧ a.g ≠ R ∧ a.q = some ⟨a.g, 0, none⟩ ∧ SRow a.g y.dt w' ∧ (hi ≤ a.g ∨ (a.g = (A k).g ∧ S[k].dt ≠ []))))
    (ne : y.bl ≠ [] → y.dt ≠ [] → a.f ≠ a.g) : LyOwn lo hi' R (updA A k a) (S.set k y) w' := by
  have hlen : (S.set k y).length = S.length := List.length_set
  refine ⟨h.r0, Nat.lt_of_lt_of_le h.r1 hh, hs, fun i hi2 => ?_, fun j hj => (fr j).trans (h.free j (by rw [← hlen]; exact hj)), fun i hi2 => ?_, fun i hi2 => ?_, fun i j hi2 hj2 hij ei ej => ?_, fun i j hi2 hj2 hij ei ej => ?_, fun i j hi2 hj2 ei ej => ?_⟩
  · have hi3 : i < S.length := by rw [← hlen]; exact hi2
    by_cases e : i = k
    · subst e
      rw [updA_same, List.getElem_set_self]
      exact ⟨c0, c1, c2⟩
    · rw [updA_other _ _ _ _ e, List.getElem_set_ne (fun e2 => e e2.symm), co _ (by omega), co _ (by omega), co _ (by omega)]
      exact h.cell i hi3
  · have hi3 : i < S.length := by rw [← hlen]; exact hi2
    by_cases e : i = k
    · subst e
      rw [updA_same, List.getElem_set_self]
      rcases nb with h0 | ⟨h1, h2, h3, h4, h5, _⟩
      · exact Or.inl h0
      · exact Or.inr ⟨h1, h2, h3, h4, h5⟩
    · rw [updA_other _ _ _ _ e, List.getElem_set_ne (fun e2 => e e2.symm)]
      by_cases hne : S[i].bl = []
      · exact Or.inl hne
      · obtain ⟨h1, h2, h3, h4, h5⟩ := h.fB i hi3 hne
        exact Or.inr ⟨h1, Nat.lt_of_lt_of_le h2 hh, h3, h4, h5.same hsz (rows _ h1 h2 h3 (fun ek => h.bb i k hi3 hk e hne ek) (fun ek => h.bd i k hi3 hk hne ek))⟩
  · have hi3 : i < S.length := by rw [← hlen]; exact hi2
    by_cases e : i = k
    · subst e
      rw [updA_same, List.getElem_set_self]
      rcases nd with h0 | ⟨h1, h2, h3, h4, h5, _⟩
      · exact Or.inl h0
      · exact Or.inr ⟨h1, h2, h3, h4, h5⟩
    · rw [updA_other _ _ _ _ e, List.getElem_set_ne (fun e2 => e e2.symm)]
      by_cases hne : S[i].dt = []
      · exact Or.inl hne
      · obtain ⟨h1, h2, h3, h4, h5⟩ := h.fD i hi3 hne
        exact Or.inr ⟨h1, Nat.lt_of_lt_of_le h2 hh, h3, h4, h5.same hsz (rows _ h1 h2 h3 (fun ek e2 => h.bd k i hk hi3 ek hne e2.symm) (fun ek => h.dd i k hi3 hk e hne ek))⟩
  · have hi3 : i < S.length := by rw [← hlen]; exact hi2
    have hj3 : j < S.length := by rw [← hlen]; exact hj2
    by_cases e1 : i = k
    · subst e1
      rw [List.getElem_set_self] at ei
      rw [List.getElem_set_ne hij] at ej
      rw [updA_same, updA_other _ _ _ _ (fun e => hij e.symm)]
      obtain ⟨_, _, _, _, _, hn⟩ := nb.resolve_left ei
      obtain ⟨_, h2, _⟩ := h.fB j hj3 ej
      rcases hn with hn | ⟨hn, hn2⟩
      · omega
      · rw [hn]; exact h.bb i j hi3 hj3 hij hn2 ej
    · rw [List.getElem_set_ne (fun e => e1 e.symm)] at ei
      rw [updA_other _ _ _ _ e1]
      by_cases e2 : j = k
      · subst e2
        rw [List.getElem_set_self] at ej
        rw [updA_same]
        obtain ⟨_, _, _, _, _, hn⟩ := nb.resolve_left ej
        obtain ⟨_, h2, _⟩ := h.fB i hi3 ei
        rcases hn with hn | ⟨hn, hn2⟩
        · omega
        · rw [hn]; exact h.bb i j hi3 hj3 hij ei hn2
      · rw [List.getElem_set_ne (fun e => e2 e.symm)] at ej
        rw [updA_other _ _ _ _ e2]
        exact h.bb i j hi3 hj3 hij ei ej
  · have hi3 : i < S.length := by rw [← hlen]; exact hi2
    have hj3 : j < S.length := by rw [← hlen]; exact hj2
    by_cases e1 : i = k
    · subst e1
      rw [List.getElem_set_self] at ei
      rw [List.getElem_set_ne hij] at ej
      rw [updA_same, updA_other _ _ _ _ (fun e => hij e.symm)]
      obtain ⟨_, _, _, _, _, hn⟩ := nd.resolve_left ei
      obtain ⟨_, h2, _⟩ := h.fD j hj3 ej
      rcases hn with hn | ⟨hn, hn2⟩
      · omega
      · rw [hn]; exact h.dd i j hi3 hj3 hij hn2 ej
    · rw [List.getElem_set_ne (fun e => e1 e.symm)] at ei
      rw [updA_other _ _ _ _ e1]
      by_cases e2 : j = k
      · subst e2
        rw [List.getElem_set_self] at ej
        rw [updA_same]
        obtain ⟨_, _, _, _, _, hn⟩ := nd.resolve_left ej
        obtain ⟨_, h2, _⟩ := h.fD i hi3 ei
        rcases hn with hn | ⟨hn, hn2⟩
        · omega
        · rw [hn]; exact h.dd i j hi3 hj3 hij ei hn2
      · rw [List.getElem_set_ne (fun e => e2 e.symm)] at ej
        rw [updA_other _ _ _ _ e2]
        exact h.dd i j hi3 hj3 hij ei ej
  · have hi3 : i < S.length := by rw [← hlen]; exact hi2
    have hj3 : j < S.length := by rw [← hlen]; exact hj2
    by_cases e1 : i = k
    · subst e1
      rw [List.getElem_set_self] at ei
      rw [updA_same]
      obtain ⟨_, _, _, _, _, hn⟩ := nb.resolve_left ei
      by_cases e2 : j = i
      · subst e2
        rw [List.getElem_set_self] at ej
        rw [updA_same]
        exact ne ei ej
      · rw [List.getElem_set_ne (fun e => e2 e.symm)] at ej
        rw [updA_other _ _ _ _ e2]
        obtain ⟨_, h2, _⟩ := h.fD j hj3 ej
        rcases hn with hn | ⟨hn, hn2⟩
        · omega
        · rw [hn]; exact h.bd i j hi3 hj3 hn2 ej
    · rw [List.getElem_set_ne (fun e => e1 e.symm)] at ei
      rw [updA_other _ _ _ _ e1]
      by_cases e2 : j = k
      · subst e2
        rw [List.getElem_set_self] at ej
        rw [updA_same]
        obtain ⟨_, _, _, _, _, hn⟩ := nd.resolve_left ej
        obtain ⟨_, h2, _⟩ := h.fB i hi3 ei
        rcases hn with hn | ⟨hn, hn2⟩
        · omega
        · rw [hn]; exact h.bd i j hi3 hj3 ei hn2
      · rw [List.getElem_set_ne (fun e => e2 e.symm)] at ej
        rw [updA_other _ _ _ _ e2]
        exact h.bd i j hi3 hj3 ei ej
end
/-- layers that are owned in blocks lo .. hi - 1 (or none) -/
def OwnK (lo hi : Nat) (a : Option Addr) (S : List Ly) (w : World) : Prop := S = [] ∨ ∃ R A, a = some ⟨R, 0, none⟩ ∧ LyOwn lo hi R A S w
theorem OwnK.ys {lo hi : Nat} {a : Option Addr} {S : List Ly} {w : World} (h : OwnK lo hi a S w) : Ys w.heap.size a S w := by
  rcases h with rfl | ⟨R, A, rfl, h⟩
  · exact fun h0 => absurd h0 (by simp)
  · exact h.ys
theorem OwnK.on {lo hi : Nat} {a : Option Addr} {S : List Ly} {w w' : World} (h : OwnK lo hi a S w) (g : Below w.heap.size w w') : OwnK lo hi a S w' := by
  rcases h with rfl | ⟨R, A, rfl, h⟩
  · exact Or.inl rfl
  · exact Or.inr ⟨R, A, rfl, h.on g⟩
theorem OwnK.out {lo hi l2 h2 : Nat} {a : Option Addr} {S : List Ly} {w w' : World} (h : OwnK lo hi a S w) (g : Out l2 h2 w w') (hd : hi ≤ l2 ∨ h2 ≤ lo) : OwnK lo hi a S w' := by
  rcases h with rfl | ⟨R, A, rfl, h⟩
  · exact Or.inl rfl
  · exact Or.inr ⟨R, A, rfl, h.out g hd⟩
end Go.Proofs.Ytiionfmpbifbcaa
