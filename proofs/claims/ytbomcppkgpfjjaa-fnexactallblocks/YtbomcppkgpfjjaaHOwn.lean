/- Segments that a call owns: the row, and each one's own blocks. -/
import Derived.Test.YtbomcppkgpfjjaaHRoom
namespace Go.Proofs.Ytbomcppkgpfjjaa
set_option maxRecDepth 100000
open Go Go.ChangeShapes Go.WideShapes Go.ChangeAt Go.RowKit G00541
def updA {α : Type} (f : Nat → α) (k : Nat) (x : α) : Nat → α := fun i => if i = k then x else f i
theorem updA_same {α : Type} (f : Nat → α) (k : Nat) (x : α) : updA f k x k = x := by simp [updA]
theorem updA_other {α : Type} (f : Nat → α) (k i : Nat) (x : α) (h : i ≠ k) : updA f k x i = f i := by simp [updA, h]
/-- segments owned in blocks lo .. hi - 1: the row at R, the blocks of the i-th at f i -/
structure SegOwn (lo hi R : Nat) (q : Nat → Option Addr) (c f : Nat → Nat) (S : List Sg) (w : World) : Prop where
  r0 : lo ≤ R
  r1 : R < hi
  r2 : hi ≤ w.heap.size
  cell : ∀ i (h : i < S.length), w.cell? ⟨R, i * 2, none⟩ = some (.slice (q i) S[i].bl.length (c i)) ∧ w.cell? ⟨R, i * 2 + 1, none⟩ = some (.int .i64 S[i].age)
  free : ∀ j, j < S.length * 2 → w.frozen? ⟨R, j, none⟩ = false
  own : ∀ i (h : i < S.length), S[i].bl = [] ∨ (lo ≤ f i ∧ f i < hi ∧ f i ≠ R ∧ q i = some ⟨f i, 0, none⟩ ∧ IRow (f i) S[i].bl w)
  apart : ∀ i j (h : i < S.length) (g : j < S.length), i ≠ j → S[i].bl ≠ [] → S[j].bl ≠ [] → f i ≠ f j
theorem SegOwn.gs {lo hi R : Nat} {q : Nat → Option Addr} {c f : Nat → Nat} {S : List Sg} {w : World} (h : SegOwn lo hi R q c f S w) : Gs w.heap.size (some ⟨R, 0, none⟩) S w := fun _ => by
  have := h.r1; have := h.r2
  refine ⟨R, 0, rfl, by omega, fun i hi => ?_⟩
  obtain ⟨h1, h2⟩ := h.cell i hi
  refine ⟨q i, c i, by rw [Nat.zero_add]; exact h1, by rw [Nat.zero_add]; exact h2, ?_⟩
  rcases h.own i hi with h0 | ⟨_, h4, _, h6, h7⟩
  · rw [h0]; exact ⟨fun h0 => absurd h0 (by simp)⟩
  · rw [h6]; exact h7.sl (by omega)
theorem SegOwn.on {lo hi R : Nat} {q : Nat → Option Addr} {c f : Nat → Nat} {S : List Sg} {w w' : World} (h : SegOwn lo hi R q c f S w) (g : Below w.heap.size w w') : SegOwn lo hi R q c f S w' := by
  have hR : R < w.heap.size := Nat.lt_of_lt_of_le h.r1 h.r2
  refine ⟨h.r0, h.r1, Nat.le_trans h.r2 g.size, fun i hi => ?_, fun j hj => ?_, fun i hi => ?_, h.apart⟩
  · obtain ⟨h1, h2⟩ := h.cell i hi
    exact ⟨(g.cell (p := ⟨R, _, none⟩) hR).trans h1, (g.cell (p := ⟨R, _, none⟩) hR).trans h2⟩
  · exact (g.frozen (p := ⟨R, _, none⟩) hR).trans (h.free j hj)
  · rcases h.own i hi with h0 | ⟨h3, h4, h5, h6, h7⟩
    · exact Or.inl h0
    · exact Or.inr ⟨h3, h4, h5, h6, h7.below g⟩
/-- another segment in the place of the k-th, its blocks new -/
theorem SegOwn.set {lo hi R : Nat} {q : Nat → Option Addr} {c f : Nat → Nat} {S : List Sg} {w w1 : World} (h : SegOwn lo hi R q c f S w) (g : Below w.heap.size w w1) (k : Nat) (hk : k < S.length) (l : List Int) (age : Int) (b : Option Addr) (cb : Nat)
    (ho : OwnI w.heap.size w1.heap.size b l w1) : ∃ F, SegOwn lo w1.heap.size R (updA q k b) (updA c k cb) (updA f k F) (S.set k ⟨l, age⟩) ((w1.setCell ⟨R, k * 2, none⟩ (.slice b l.length cb)).setCell ⟨R, k * 2 + 1, none⟩ (.int .i64 age)) := by
  have hR : R < w.heap.size := Nat.lt_of_lt_of_le h.r1 h.r2
  have h1 := h.on g
  have hsz : ((w1.setCell ⟨R, k * 2, none⟩ (.slice b l.length cb)).setCell ⟨R, k * 2 + 1, none⟩ (.int .i64 age)).heap.size = w1.heap.size := by simp [World.setCell]
  obtain ⟨F, hF⟩ : ∃ F, l = [] ∨ (w.heap.size ≤ F ∧ F < w1.heap.size ∧ b = some ⟨F, 0, none⟩ ∧ IRow F l w1) := by
    rcases ho with h0 | ⟨F, f1, f2, f3, f4⟩
    · exact ⟨0, Or.inl h0⟩
    · exact ⟨F, Or.inr ⟨f1, f2, f3, f4⟩⟩
  have hlen : (S.set k ⟨l, age⟩).length = S.length := List.length_set
  have hgs := g.size
  have keep : ∀ (X : Nat) (m : List Int), X ≠ R → IRow X m w1 → IRow X m ((w1.setCell ⟨R, k * 2, none⟩ (.slice b l.length cb)).setCell ⟨R, k * 2 + 1, none⟩ (.int .i64 age)) := fun X m hX hr =>
    hr.same (by rw [hsz]; exact Nat.le_refl _) ((Below.heap_setCell _ _ _ _ hX).trans (Below.heap_setCell _ _ _ _ hX))
  have off : ∀ (a b' : Nat), a ≠ b' → (⟨R, a, none⟩ : Addr) ≠ ⟨R, b', none⟩ := fun a b' hab e => hab (congrArg Addr.off e)
  refine ⟨F, h.r0, by omega, by rw [hsz]; exact Nat.le_refl _, fun i hi => ?_, fun j hj => ?_, fun i hi => ?_, fun i j hi hj hij ei ej => ?_⟩
  · have hi' : i < S.length := by rw [← hlen]; exact hi
    by_cases e : i = k
    · subst e
      obtain ⟨c1, c2⟩ := h1.cell i hi'
      rw [updA_same, updA_same, List.getElem_set_self]
      constructor
      · rw [World.cell?_setCell_other _ _ _ _ (off _ _ (by omega))]
        exact World.cell?_setCell_same _ _ _ c1
      · have c3 : (w1.setCell ⟨R, i * 2, none⟩ (.slice b l.length cb)).cell? ⟨R, i * 2 + 1, none⟩ = some (.int .i64 S[i].age) := by
          rw [World.cell?_setCell_other _ _ _ _ (off _ _ (by omega))]
          exact c2
        exact World.cell?_setCell_same _ _ _ c3
    · obtain ⟨c1, c2⟩ := h1.cell i hi'
      rw [updA_other _ _ _ _ e, updA_other _ _ _ _ e, List.getElem_set_ne (fun e2 => e e2.symm)]
      constructor
      · rw [World.cell?_setCell_other _ _ _ _ (off _ _ (by omega)), World.cell?_setCell_other _ _ _ _ (off _ _ (by omega))]
        exact c1
      · rw [World.cell?_setCell_other _ _ _ _ (off _ _ (by omega)), World.cell?_setCell_other _ _ _ _ (off _ _ (by omega))]
        exact c2
  · rw [World.frozen?_setCell, World.frozen?_setCell]
    exact h1.free j (by rw [← hlen]; exact hj)
  · have hi' : i < S.length := by rw [← hlen]; exact hi
    by_cases e : i = k
    · subst e
      rw [updA_same, updA_same, List.getElem_set_self]
      rcases hF with h0 | ⟨f1, f2, f3, f4⟩
      · exact Or.inl h0
      · have := h.r0
        exact Or.inr ⟨by omega, f2, by omega, f3, keep F l (by omega) f4⟩
    · rw [updA_other _ _ _ _ e, updA_other _ _ _ _ e, List.getElem_set_ne (fun e2 => e e2.symm)]
      rcases h1.own i hi' with h0 | ⟨h3, h4, h5, h6, h7⟩
      · exact Or.inl h0
      · have := h.r2
        exact Or.inr ⟨h3, by omega, h5, h6, keep _ _ h5 h7⟩
  · have hi' : i < S.length := by rw [← hlen]; exact hi
    have hj' : j < S.length := by rw [← hlen]; exact hj
    have hr2 := h.r2
    by_cases e1 : i = k
    · subst e1
      rw [List.getElem_set_self] at ei
      rw [List.getElem_set_ne hij] at ej
      rw [updA_same, updA_other _ _ _ _ (fun e => hij e.symm)]
      rcases hF with h0 | ⟨f1, _⟩
      · exact absurd h0 ei
      · rcases h.own j hj' with h0 | ⟨_, h4, _⟩
        · exact absurd h0 ej
        · omega
    · rw [List.getElem_set_ne (fun e => e1 e.symm)] at ei
      rw [updA_other _ _ _ _ e1]
      by_cases e2 : j = k
      · subst e2
        rw [List.getElem_set_self] at ej
        rw [updA_same]
        rcases hF with h0 | ⟨f1, _⟩
        · exact absurd h0 ej
        · rcases h.own i hi' with h0 | ⟨_, h4, _⟩
          · exact absurd h0 ei
          · omega
      · rw [List.getElem_set_ne (fun e => e2 e.symm)] at ej
        rw [updA_other _ _ _ _ e2]
        exact h.apart i j hi' hj' hij ei ej
theorem infoSeg : (Try.prog.info? 43).map (fun i => (i.zero, i.size, i.bytes)) = some (some (.agg #[.slice none 0 0, .int .i64 0]), 2, 32) := by kernel_rfl
theorem make_segs (n : Nat) (hn : n ≤ 1048576) (W : World) : (Instr.makeSlice 30 (.int .i64 (n : Int)) (.int .i64 (n : Int))).run Try.prog W =
    .ok (.slice (some ⟨W.heap.size, 0, none⟩) n n) (W.alloc (.cells (madeCells (Value.agg #[.slice none 0 0, .int .i64 0]).cells (n * 2)) 43)) := by
  obtain ⟨i0, hi, hz0, hz1, hz2⟩ := info_parts infoSeg
  have h := run_make (P := Try.prog) W 30 43 i0 _ Try.underlying30 hi hz0 .i64 .i64 (n : Int) (n : Int) (by omega) (by omega) (by rw [hz2]; omega) (by omega)
  rw [hz1] at h
  simpa using h
theorem SegOwn.made (w : World) (n : Nat) : SegOwn w.heap.size (w.heap.size + 1) w.heap.size (fun _ => none) (fun _ => 0) (fun _ => 0) (List.replicate n ⟨[], 0⟩) (w.alloc (.cells (madeCells (Value.agg #[.slice none 0 0, .int .i64 0]).cells (n * 2)) 43)) := by
  have h := GRow.made w 43 n #[.slice none 0 0, .int .i64 0]
  refine ⟨Nat.le_refl _, by omega, by simp, fun i hi => ?_, fun j hj => ?_, fun i hi => Or.inl (by simp), fun i j hi hj _ ei _ => absurd (by simp) ei⟩
  · have hi' : i < n := by simpa using hi
    have h0 := h.cell i (by simpa using hi) 0 (by decide)
    have h1 := h.cell i (by simpa using hi) 1 (by decide)
    rw [List.getElem_replicate] at h0 h1
    rw [List.getElem_replicate]
    exact ⟨h0, h1⟩
  · exact h.free j (by simpa using hj)
theorem own_set {lo hi : Nat} {b : Option Addr} {l : List Int} {w : World} (h : OwnI lo hi b l w) (R i : Nat) (v : Value) (hR : R < lo) : OwnI lo hi b l (w.setCell ⟨R, i, none⟩ v) := by
  rcases h with h | ⟨F, h1, h3, e, hr⟩
  · exact Or.inl h
  · exact Or.inr ⟨F, h1, h3, e, hr.same (by simp [World.setCell]) (keepB _ _ _ _ _ (by omega))⟩
theorem own_low {lo lo' hi : Nat} {b : Option Addr} {l : List Int} {w : World} (h : OwnI lo hi b l w) (hl : lo' ≤ lo) : OwnI lo' hi b l w := by
  rcases h with h | ⟨F, h1, h3, e, hr⟩
  · exact Or.inl h
  · exact Or.inr ⟨F, by omega, h3, e, hr⟩
theorem off_ne (R : Nat) (a b : Nat) (h : a ≠ b) : (⟨R, a, none⟩ : Addr) ≠ ⟨R, b, none⟩ := fun e => h (congrArg Addr.off e)
theorem block_ne (R R' a b : Nat) (h : R ≠ R') : (⟨R, a, none⟩ : Addr) ≠ ⟨R', b, none⟩ := fun e => h (congrArg Addr.block e)
set_option maxHeartbeats 400000 in
theorem toSeg_any (a : Option Addr) (cap : Nat) (l : List Int) (age : Int) (w : World) (hn : l.length ≤ 1048576) (hI : Is w.heap.size a l w) :
    Calls Try.prog 30 #[.agg #[.slice a l.length cap, .int .i64 age]] w fun e w' => ∃ b c, e = .returned (.agg #[.slice b l.length c, .int .i64 age]) ∧ OwnI w.heap.size w'.heap.size b l w' ∧ Below w.heap.size w w' := by
  have HB : Hid (Below w.heap.size w (((w.alloc (.cells #[.slice a l.length cap, .int .i64 age] 54)).alloc (.cells #[.slice none 0 0, .int .i64 0] 43)).alloc (.cells #[.slice none 0 0, .int .i64 0] 43))) := ((boxB w _).alloc (by simp) _).alloc (by simp; omega) _
  have hsz : (((w.alloc (.cells #[.slice a l.length cap, .int .i64 age] 54)).alloc (.cells #[.slice none 0 0, .int .i64 0] 43)).alloc (.cells #[.slice none 0 0, .int .i64 0] 43)).heap.size = w.heap.size + 3 := by simp
  have y1 : (((w.alloc (.cells #[.slice a l.length cap, .int .i64 age] 54)).alloc (.cells #[.slice none 0 0, .int .i64 0] 43)).alloc (.cells #[.slice none 0 0, .int .i64 0] 43)).cell? ⟨w.heap.size, 1, none⟩ = some (.int .i64 age) := by go_simp
  have y0 : (((w.alloc (.cells #[.slice a l.length cap, .int .i64 age] 54)).alloc (.cells #[.slice none 0 0, .int .i64 0] 43)).alloc (.cells #[.slice none 0 0, .int .i64 0] 43)).cell? ⟨w.heap.size, 0, none⟩ = some (.slice a l.length cap) := by go_simp
  have r0 : (((w.alloc (.cells #[.slice a l.length cap, .int .i64 age] 54)).alloc (.cells #[.slice none 0 0, .int .i64 0] 43)).alloc (.cells #[.slice none 0 0, .int .i64 0] 43)).cell? ⟨w.heap.size + 1, 0, none⟩ = some (.slice none 0 0) := by go_simp
  have r1 : (((w.alloc (.cells #[.slice a l.length cap, .int .i64 age] 54)).alloc (.cells #[.slice none 0 0, .int .i64 0] 43)).alloc (.cells #[.slice none 0 0, .int .i64 0] 43)).cell? ⟨w.heap.size + 1, 1, none⟩ = some (.int .i64 0) := by go_simp
  have f0 : (((w.alloc (.cells #[.slice a l.length cap, .int .i64 age] 54)).alloc (.cells #[.slice none 0 0, .int .i64 0] 43)).alloc (.cells #[.slice none 0 0, .int .i64 0] 43)).frozen? ⟨w.heap.size + 1, 0, none⟩ = false := by go_simp
  have f1 : (((w.alloc (.cells #[.slice a l.length cap, .int .i64 age] 54)).alloc (.cells #[.slice none 0 0, .int .i64 0] 43)).alloc (.cells #[.slice none 0 0, .int .i64 0] 43)).frozen? ⟨w.heap.size + 1, 1, none⟩ = false := by go_simp
  have z0 : (((w.alloc (.cells #[.slice a l.length cap, .int .i64 age] 54)).alloc (.cells #[.slice none 0 0, .int .i64 0] 43)).alloc (.cells #[.slice none 0 0, .int .i64 0] 43)).cell? ⟨w.heap.size + 1 + 1, 0, none⟩ = some (.slice none 0 0) := by go_simp
  have z1 : (((w.alloc (.cells #[.slice a l.length cap, .int .i64 age] 54)).alloc (.cells #[.slice none 0 0, .int .i64 0] 43)).alloc (.cells #[.slice none 0 0, .int .i64 0] 43)).cell? ⟨w.heap.size + 1 + 1, 1, none⟩ = some (.int .i64 0) := by go_simp
  have g0 : (((w.alloc (.cells #[.slice a l.length cap, .int .i64 age] 54)).alloc (.cells #[.slice none 0 0, .int .i64 0] 43)).alloc (.cells #[.slice none 0 0, .int .i64 0] 43)).frozen? ⟨w.heap.size + 1 + 1, 0, none⟩ = false := by go_simp
  have g1 : (((w.alloc (.cells #[.slice a l.length cap, .int .i64 age] 54)).alloc (.cells #[.slice none 0 0, .int .i64 0] 43)).alloc (.cells #[.slice none 0 0, .int .i64 0] 43)).frozen? ⟨w.heap.size + 1 + 1, 1, none⟩ = false := by go_simp
  have HI := hid ((hI.below HB.out).mono HB.out.size)
  clear hI
  generalize hW : ((w.alloc (.cells #[.slice a l.length cap, .int .i64 age] 54)).alloc (.cells #[.slice none 0 0, .int .i64 0] 43)).alloc (.cells #[.slice none 0 0, .int .i64 0] 43) = W at *
  go_enter Try.func30, Try.ntmps30
  go_wp2_with fail
  refine (to_ownI a cap l W hn HI.out).mono ?_
  rintro e w2 ⟨b, c, rfl, ho, b2⟩
  have HO := hid ho
  have HB2 := hid (HB.out.trans (b2.mono HB.out.size))
  have hs2 := b2.size
  have k0 : ∀ R o, R < W.heap.size → w2.cell? ⟨R, o, none⟩ = W.cell? ⟨R, o, none⟩ := fun R o h => b2.cell (p := ⟨R, o, none⟩) h
  have k1 : ∀ R o, R < W.heap.size → w2.frozen? ⟨R, o, none⟩ = W.frozen? ⟨R, o, none⟩ := fun R o h => b2.frozen (p := ⟨R, o, none⟩) h
  rw [← k0 _ _ (by omega)] at y0 y1 r0 r1 z0 z1
  rw [← k1 _ _ (by omega)] at f0 f1 g0 g1
  clear k0 k1 b2 ho hW HI HB
  have HO4 : Hid (OwnI w.heap.size ((((w2.setCell ⟨w.heap.size + 1 + 1, 0, none⟩ (.slice b l.length c)).setCell ⟨w.heap.size + 1 + 1, 1, none⟩ (.int .i64 age)).setCell ⟨w.heap.size + 1, 0, none⟩ (.slice b l.length c)).setCell ⟨w.heap.size + 1, 1, none⟩ (.int .i64 age)).heap.size b l ((((w2.setCell ⟨w.heap.size + 1 + 1, 0, none⟩ (.slice b l.length c)).setCell ⟨w.heap.size + 1 + 1, 1, none⟩ (.int .i64 age)).setCell ⟨w.heap.size + 1, 0, none⟩ (.slice b l.length c)).setCell ⟨w.heap.size + 1, 1, none⟩ (.int .i64 age))) := by
    have e : ((((w2.setCell ⟨w.heap.size + 1 + 1, 0, none⟩ (.slice b l.length c)).setCell ⟨w.heap.size + 1 + 1, 1, none⟩ (.int .i64 age)).setCell ⟨w.heap.size + 1, 0, none⟩ (.slice b l.length c)).setCell ⟨w.heap.size + 1, 1, none⟩ (.int .i64 age)).heap.size = w2.heap.size := by simp [World.setCell]
    show OwnI w.heap.size ((((w2.setCell ⟨w.heap.size + 1 + 1, 0, none⟩ (.slice b l.length c)).setCell ⟨w.heap.size + 1 + 1, 1, none⟩ (.int .i64 age)).setCell ⟨w.heap.size + 1, 0, none⟩ (.slice b l.length c)).setCell ⟨w.heap.size + 1, 1, none⟩ (.int .i64 age)).heap.size b l ((((w2.setCell ⟨w.heap.size + 1 + 1, 0, none⟩ (.slice b l.length c)).setCell ⟨w.heap.size + 1 + 1, 1, none⟩ (.int .i64 age)).setCell ⟨w.heap.size + 1, 0, none⟩ (.slice b l.length c)).setCell ⟨w.heap.size + 1, 1, none⟩ (.int .i64 age))
    rw [e]
    exact own_low (own_set (own_set (own_set (own_set HO.out _ _ _ (by omega)) _ _ _ (by omega)) _ _ _ (by omega)) _ _ _ (by omega)) (by omega)
  have HB4 : Hid (Below w.heap.size w ((((w2.setCell ⟨w.heap.size + 1 + 1, 0, none⟩ (.slice b l.length c)).setCell ⟨w.heap.size + 1 + 1, 1, none⟩ (.int .i64 age)).setCell ⟨w.heap.size + 1, 0, none⟩ (.slice b l.length c)).setCell ⟨w.heap.size + 1, 1, none⟩ (.int .i64 age))) := setB (setB (setB (setB HB2.out _ _ (by omega) _) _ _ (by omega) _) _ _ (by omega) _) _ _ (by omega) _
  have q0 : ((w2.setCell ⟨w.heap.size + 1 + 1, 0, none⟩ (.slice b l.length c)).setCell ⟨w.heap.size + 1 + 1, 1, none⟩ (.int .i64 age)).cell? ⟨w.heap.size + 1, 0, none⟩ = some (.slice none 0 0) := by
    rw [World.cell?_setCell_other _ _ _ _ (block_ne _ _ _ _ (by omega)), World.cell?_setCell_other _ _ _ _ (block_ne _ _ _ _ (by omega))]; exact r0
  have q1 : (((w2.setCell ⟨w.heap.size + 1 + 1, 0, none⟩ (.slice b l.length c)).setCell ⟨w.heap.size + 1 + 1, 1, none⟩ (.int .i64 age)).setCell ⟨w.heap.size + 1, 0, none⟩ (.slice b l.length c)).cell? ⟨w.heap.size + 1, 1, none⟩ = some (.int .i64 0) := by
    rw [World.cell?_setCell_other _ _ _ _ (off_ne _ _ _ (by omega)), World.cell?_setCell_other _ _ _ _ (block_ne _ _ _ _ (by omega)), World.cell?_setCell_other _ _ _ _ (block_ne _ _ _ _ (by omega))]; exact r1
  have x1 : ((((w2.setCell ⟨w.heap.size + 1 + 1, 0, none⟩ (.slice b l.length c)).setCell ⟨w.heap.size + 1 + 1, 1, none⟩ (.int .i64 age)).setCell ⟨w.heap.size + 1, 0, none⟩ (.slice b l.length c)).setCell ⟨w.heap.size + 1, 1, none⟩ (.int .i64 age)).cell? ⟨w.heap.size + 1, 1, none⟩ = some (.int .i64 age) := World.cell?_setCell_same _ _ _ q1
  have x0 : ((((w2.setCell ⟨w.heap.size + 1 + 1, 0, none⟩ (.slice b l.length c)).setCell ⟨w.heap.size + 1 + 1, 1, none⟩ (.int .i64 age)).setCell ⟨w.heap.size + 1, 0, none⟩ (.slice b l.length c)).setCell ⟨w.heap.size + 1, 1, none⟩ (.int .i64 age)).cell? ⟨w.heap.size + 1, 0, none⟩ = some (.slice b l.length c) := by
    rw [World.cell?_setCell_other _ _ _ _ (off_ne _ _ _ (by omega))]; exact World.cell?_setCell_same _ _ _ q0
  clear q0 q1
  go_wp2_with fail
  generalize (((w2.setCell ⟨w.heap.size + 1 + 1, 0, none⟩ (.slice b l.length c)).setCell ⟨w.heap.size + 1 + 1, 1, none⟩ (.int .i64 age)).setCell ⟨w.heap.size + 1, 0, none⟩ (.slice b l.length c)).setCell ⟨w.heap.size + 1, 1, none⟩ (.int .i64 age) = X at *
  refine bodyPost_ret (v := .agg #[.slice b l.length c, .int .i64 age]) (by simp [results, Try.results30, go_sem, x0, x1]) rfl ⟨b, c, rfl, HO4.out, HB4.out⟩
end Go.Proofs.Ytbomcppkgpfjjaa
