/- Rows of rows of numbers: read, measured, made over, held against each other. -/
import Derived.Test.YtgompioaknfjgabKInt
import Derived.Test.YtgompioaknfjgabVBase
import Derived.Deep.RegionWith
namespace Go.Proofs.Ytgompioaknfjgab
set_option maxRecDepth 100000
open Go Go.ChangeShapes Go.WideShapes Go.ChangeAt Go.RowKit
/-- rows of numbers in memory below block B -/
def Js (B : Nat) (a : Option Addr) (L : List (List Int)) (w : World) : Prop := 0 < L.length → ∃ b off, a = some ⟨b, off, none⟩ ∧ b < B ∧ ∀ i (hi : i < L.length), ∃ p c, w.cell? ⟨b, off + i, none⟩ = some (.slice p L[i].length c) ∧ Is B p L[i] w
theorem Js.below {B : Nat} {a : Option Addr} {L : List (List Int)} {w w' : World} (h : Js B a L w) (g : Below B w w') : Js B a L w' := fun h0 => by
  obtain ⟨b, off, e, hb, hc⟩ := h h0
  refine ⟨b, off, e, hb, fun i hi => ?_⟩
  obtain ⟨p, c, h1, h3⟩ := hc i hi
  exact ⟨p, c, (g.cell (p := ⟨b, _, none⟩) hb).trans h1, h3.below g⟩
theorem Js.mono {B B' : Nat} {a : Option Addr} {L : List (List Int)} {w : World} (h : Js B a L w) (hB : B ≤ B') : Js B' a L w := fun h0 => by
  obtain ⟨b, off, e, hb, hc⟩ := h h0
  refine ⟨b, off, e, by omega, fun i hi => ?_⟩
  obtain ⟨p, c, h1, h3⟩ := hc i hi
  exact ⟨p, c, h1, h3.mono hB⟩
def updA {α : Type} (f : Nat → α) (k : Nat) (x : α) : Nat → α := fun i => if i = k then x else f i
theorem updA_same {α : Type} (f : Nat → α) (k : Nat) (x : α) : updA f k x k = x := by simp [updA]
theorem updA_other {α : Type} (f : Nat → α) (k i : Nat) (x : α) (h : i ≠ k) : updA f k x i = f i := by simp [updA, h]
theorem off_ne (R : Nat) (a b : Nat) (h : a ≠ b) : (⟨R, a, none⟩ : Addr) ≠ ⟨R, b, none⟩ := fun e => h (congrArg Addr.off e)
theorem set_take {α : Type} (ys l : List α) (k : Nat) (hy : ys.length = l.length) (hk : k < l.length) (h : ys.take k = l.take k) : (ys.set k l[k]).take (k + 1) = l.take (k + 1) := by
  have hky : k < ys.length := by omega
  rw [take_snoc _ k (by simpa using hky), take_snoc l k hk, List.take_set_of_le (Nat.le_refl _), h, List.getElem_set_self]
/-- rows of numbers owned in blocks lo .. hi - 1: the row at R, the i-th at f i -/
structure RwOwn (lo hi R : Nat) (q : Nat → Option Addr) (c f : Nat → Nat) (L : List (List Int)) (w : World) : Prop where
  r0 : lo ≤ R
  r1 : R < hi
  r2 : hi ≤ w.heap.size
  cell : ∀ i (h : i < L.length), w.cell? ⟨R, i, none⟩ = some (.slice (q i) L[i].length (c i))
  free : ∀ j, j < L.length → w.frozen? ⟨R, j, none⟩ = false
  own : ∀ i (h : i < L.length), L[i] = [] ∨ (lo ≤ f i ∧ f i < hi ∧ f i ≠ R ∧ q i = some ⟨f i, 0, none⟩ ∧ IRow (f i) L[i] w)
  apart : ∀ i j (h : i < L.length) (g : j < L.length), i ≠ j → L[i] ≠ [] → L[j] ≠ [] → f i ≠ f j
theorem RwOwn.vs {lo hi R : Nat} {q : Nat → Option Addr} {c f : Nat → Nat} {L : List (List Int)} {w : World} (h : RwOwn lo hi R q c f L w) : Js w.heap.size (some ⟨R, 0, none⟩) L w := fun _ => by
  have := h.r1; have := h.r2
  refine ⟨R, 0, rfl, by omega, fun i hi => ?_⟩
  refine ⟨q i, c i, by rw [Nat.zero_add]; exact h.cell i hi, ?_⟩
  rcases h.own i hi with h0 | ⟨_, h4, _, h6, h7⟩
  · rw [h0]; exact ⟨fun h0 => absurd h0 (by simp)⟩
  · rw [h6]; exact h7.sl (by omega)
theorem RwOwn.on {lo hi R : Nat} {q : Nat → Option Addr} {c f : Nat → Nat} {L : List (List Int)} {w w' : World} (h : RwOwn lo hi R q c f L w) (g : Below w.heap.size w w') : RwOwn lo hi R q c f L w' := by
  have hR : R < w.heap.size := Nat.lt_of_lt_of_le h.r1 h.r2
  refine ⟨h.r0, h.r1, Nat.le_trans h.r2 g.size, fun i hi => (g.cell (p := ⟨R, _, none⟩) hR).trans (h.cell i hi), fun j hj => (g.frozen (p := ⟨R, _, none⟩) hR).trans (h.free j hj), fun i hi => ?_, h.apart⟩
  rcases h.own i hi with h0 | ⟨h3, h4, h5, h6, h7⟩
  · exact Or.inl h0
  · exact Or.inr ⟨h3, h4, h5, h6, h7.below g⟩
/-- another row in the place of the k-th, new -/
theorem RwOwn.set {lo hi R : Nat} {q : Nat → Option Addr} {c f : Nat → Nat} {L : List (List Int)} {w w1 : World} (h : RwOwn lo hi R q c f L w) (g : Below w.heap.size w w1) (k : Nat) (hk : k < L.length) (l : List Int) (b : Option Addr) (cb : Nat)
    (ho : OwnI w.heap.size w1.heap.size b l w1) : ∃ F, RwOwn lo w1.heap.size R (updA q k b) (updA c k cb) (updA f k F) (L.set k l) (w1.setCell ⟨R, k, none⟩ (.slice b l.length cb)) := by
  have hR : R < w.heap.size := Nat.lt_of_lt_of_le h.r1 h.r2
  have h1 := h.on g
  have hsz : (w1.setCell ⟨R, k, none⟩ (.slice b l.length cb)).heap.size = w1.heap.size := by simp [World.setCell]
  obtain ⟨F, hF⟩ : ∃ F, l = [] ∨ (w.heap.size ≤ F ∧ F < w1.heap.size ∧ b = some ⟨F, 0, none⟩ ∧ IRow F l w1) := by
    rcases ho with h0 | ⟨F, f1, f2, f3, f4⟩
    · exact ⟨0, Or.inl h0⟩
    · exact ⟨F, Or.inr ⟨f1, f2, f3, f4⟩⟩
  have hlen : (L.set k l).length = L.length := List.length_set
  have hgs := g.size
  have keep : ∀ (X : Nat) (m : List Int), X ≠ R → IRow X m w1 → IRow X m (w1.setCell ⟨R, k, none⟩ (.slice b l.length cb)) := fun X m hX hr =>
    hr.same (by rw [hsz]; exact Nat.le_refl _) (Below.heap_setCell _ _ _ _ hX)
  refine ⟨F, h.r0, by omega, by rw [hsz]; exact Nat.le_refl _, fun i hi => ?_, fun j hj => ?_, fun i hi => ?_, fun i j hi hj hij ei ej => ?_⟩
  · have hi' : i < L.length := by rw [← hlen]; exact hi
    by_cases e : i = k
    · subst e
      rw [updA_same, updA_same, List.getElem_set_self]
      exact World.cell?_setCell_same _ _ _ (h1.cell i hi')
    · rw [updA_other _ _ _ _ e, updA_other _ _ _ _ e, List.getElem_set_ne (fun e2 => e e2.symm), World.cell?_setCell_other _ _ _ _ (off_ne _ _ _ (fun e2 => e e2.symm))]
      exact h1.cell i hi'
  · rw [World.frozen?_setCell]
    exact h1.free j (by rw [← hlen]; exact hj)
  · have hi' : i < L.length := by rw [← hlen]; exact hi
    by_cases e : i = k
    · subst e
      rw [updA_same, updA_same, List.getElem_set_self]
      rcases hF with h0 | ⟨f1, f2, f3, f4⟩
      · exact Or.inl h0
      · have := h.r0
        exact Or.inr ⟨by omega, f2, by omega, f3, keep F l (by omega) f4⟩
    · rw [updA_other _ _ _ _ e, updA_other _ _ _ _ e, List.getElem_set_ne (fun e2 => e e2.symm)]
      rcases h1.own i hi' with h0 | ⟨h3, h4, h5, h6, h7⟩
      · exact Or.inl h0
      · have := h.r2
        exact Or.inr ⟨h3, by omega, h5, h6, keep _ _ h5 h7⟩
  · have hi' : i < L.length := by rw [← hlen]; exact hi
    have hj' : j < L.length := by rw [← hlen]; exact hj
    have hr2 := h.r2
    by_cases e1 : i = k
    · subst e1
      rw [List.getElem_set_self] at ei
      rw [List.getElem_set_ne hij] at ej
      rw [updA_same, updA_other _ _ _ _ (fun e => hij e.symm)]
      rcases hF with h0 | ⟨f1, _⟩
      · exact absurd h0 ei
      · rcases h.own j hj' with h0 | ⟨_, h4, _⟩
        · exact absurd h0 ej
        · omega
    · rw [List.getElem_set_ne (fun e => e1 e.symm)] at ei
      rw [updA_other _ _ _ _ e1]
      by_cases e2 : j = k
      · subst e2
        rw [List.getElem_set_self] at ej
        rw [updA_same]
        rcases hF with h0 | ⟨f1, _⟩
        · exact absurd h0 ej
        · rcases h.own i hi' with h0 | ⟨_, h4, _⟩
          · exact absurd h0 ei
          · omega
      · rw [List.getElem_set_ne (fun e => e2 e.symm)] at ej
        rw [updA_other _ _ _ _ e2]
        exact h.apart i j hi' hj' hij ei ej
theorem infoIs : (Try.prog.info? 22).map (fun i => (i.zero, i.size, i.bytes)) = some (some (.slice none 0 0), 1, 24) := by kernel_rfl
theorem RwOwn.made (w : World) (n : Nat) : RwOwn w.heap.size (w.heap.size + 1) w.heap.size (fun _ => none) (fun _ => 0) (fun _ => 0) (List.replicate n []) (w.alloc (.cells (madeCells (Value.slice none 0 0).cells n) 22)) := by
  have h := GRow.made w 22 n #[.slice none 0 0]
  have e : n * (#[Value.slice none 0 0] : Array Value).size = n := Nat.mul_one n
  rw [e] at h
  refine ⟨Nat.le_refl _, by omega, by simp, fun i hi => ?_, fun j hj => ?_, fun i hi => Or.inl (by simp), fun i j hi hj _ ei _ => absurd (by simp) ei⟩
  · have h0 := h.cell i (by simpa using hi) 0 (by decide)
    rw [List.getElem_replicate] at h0
    rw [List.getElem_replicate]
    have e1 : i * (#[Value.slice none 0 0] : Array Value).size + 0 = i := Nat.mul_one i
    rw [e1] at h0
    exact h0
  · exact h.free j (by simpa using hj)
set_option maxHeartbeats 400000 in
theorem szIntS_any (a : Option Addr) (cap n : Nat) (left : Int) (w : World) (h0 : 0 ≤ left) (h1 : left ≤ 1048576) (hn : n ≤ 9223372036854775807) :
    Calls Try.prog 9 #[.slice a n cap, .int .i64 left] w fun e w' => (∃ r : Int, e = .returned (.int .i64 r) ∧ r ≤ 1048576 ∧ -1 ≤ r ∧ (0 ≤ r → n ≤ 1048576)) ∧ w' = w := by
  by_cases g : (n : Int) ≤ left
  · have hd : decide (left - (n : Int) < 0) = false := by simp; omega
    go_enter Try.func9, Try.ntmps9
    go_wp2
    go_ret
    exact ⟨⟨_, rfl, by omega, by omega, fun _ => by omega⟩, rfl⟩
  · have hd : decide (left - (n : Int) < 0) = true := by simp; omega
    go_enter Try.func9, Try.ntmps9
    go_wp2
    go_ret
    exact ⟨⟨-1, rfl, by omega, by omega, fun h => by omega⟩, rfl⟩
end Go.Proofs.Ytgompioaknfjgab
