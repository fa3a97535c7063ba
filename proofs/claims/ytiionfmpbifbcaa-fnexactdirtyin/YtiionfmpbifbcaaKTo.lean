/- Walks of the laws' own copies of marks. -/
import Derived.Test.YtiionfmpbifbcaaKOwn
namespace Go.Proofs.Ytiionfmpbifbcaa
set_option maxRecDepth 100000
open Go Go.ChangeShapes Go.WideShapes Go.ChangeAt Go.RowKit
/-- three boxes of layers -/
structure T3 (w : World) (X Z Y : Array Value) (wr : World) : Prop where
  below : Below w.heap.size w wr
  x : wr.heap[w.heap.size]? = some (.cells X 85)
  z : wr.heap[w.heap.size + 1]? = some (.cells Z 79)
  y : wr.heap[w.heap.size + 1 + 1]? = some (.cells Y 79)
theorem T3.start (w : World) (X Z Y : Array Value) : T3 w X Z Y (((w.alloc (.cells X 85)).alloc (.cells Z 79)).alloc (.cells Y 79)) := by
  refine ⟨(((Below.refl _ _).alloc (Nat.le_refl _) _).alloc (by simp) _).alloc (by simp; omega) _, ?_, ?_, heap_last3 _ _ _ _⟩
  · rw [Below.heap_alloc _ _ _ (by simp; omega), Below.heap_alloc _ _ _ (by simp)]
    exact heap_last _ _
  · exact heap_mid3 _ _ _ _
theorem T3.size {w : World} {X Z Y : Array Value} {wr : World} (h : T3 w X Z Y wr) : w.heap.size + 3 ≤ wr.heap.size := by
  rcases Nat.lt_or_ge (w.heap.size + 1 + 1) wr.heap.size with h' | h'
  · omega
  · have := h.y
    rw [Array.getElem?_eq_none h'] at this; cases this
theorem T3.on {w : World} {X Z Y : Array Value} {wr w' : World} (h : T3 w X Z Y wr) (g : Below wr.heap.size wr w') : T3 w X Z Y w' := by
  have hs := h.size
  exact ⟨h.below.trans (g.mono (by omega)), (g.block _ (by omega)).trans h.x, (g.block _ (by omega)).trans h.z, (g.block _ (by omega)).trans h.y⟩
theorem T3.setY {w : World} {X Z Y : Array Value} {wr : World} (h : T3 w X Z Y wr) (i : Nat) (u : Value) : T3 w X Z (Y.setIfInBounds i u) (wr.setCell ⟨w.heap.size + 1 + 1, i, none⟩ u) :=
  ⟨setB h.below _ _ (by omega) _, (keepB _ _ _ _ _ (by omega)).trans h.x, (keepB _ _ _ _ _ (by omega)).trans h.z, box_set h.y i u⟩
theorem T3.setZ {w : World} {X Z Y : Array Value} {wr : World} (h : T3 w X Z Y wr) (i : Nat) (u : Value) : T3 w X (Z.setIfInBounds i u) Y (wr.setCell ⟨w.heap.size + 1, i, none⟩ u) :=
  ⟨setB h.below _ _ (by omega) _, (keepB _ _ _ _ _ (by omega)).trans h.x, box_set h.z i u, (keepB _ _ _ _ _ (by omega)).trans h.y⟩
theorem own_setI {lo hi : Nat} {b : Option Addr} {l : List Int} {w : World} (h : OwnI lo hi b l w) (R i : Nat) (v : Value) (hR : R < lo ∨ hi ≤ R) : OwnI lo hi b l (w.setCell ⟨R, i, none⟩ v) := by
  rcases h with h | ⟨F, h1, h3, e, hr⟩
  · exact Or.inl h
  · exact Or.inr ⟨F, h1, h3, e, hr.same (by simp [World.setCell]) (keepB _ _ _ _ _ (by omega))⟩
theorem own_setS {lo hi : Nat} {b : Option Addr} {l : List ByteArray} {w : World} (h : OwnS lo hi b l w) (R i : Nat) (v : Value) (hR : R < lo ∨ hi ≤ R) : OwnS lo hi b l (w.setCell ⟨R, i, none⟩ v) := by
  rcases h with h | ⟨F, h1, h3, e, hr⟩
  · exact Or.inl h
  · exact Or.inr ⟨F, h1, h3, e, hr.same (by simp [World.setCell]) (keepB _ _ _ _ _ (by omega))⟩
theorem own_wideI {lo hi lo' hi' : Nat} {b : Option Addr} {l : List Int} {w : World} (h : OwnI lo hi b l w) (h1 : lo' ≤ lo) (h2 : hi ≤ hi') : OwnI lo' hi' b l w := by
  rcases h with h | ⟨F, h3, h4, e, hr⟩
  · exact Or.inl h
  · exact Or.inr ⟨F, by omega, by omega, e, hr⟩
theorem own_wideS {lo hi lo' hi' : Nat} {b : Option Addr} {l : List ByteArray} {w : World} (h : OwnS lo hi b l w) (h1 : lo' ≤ lo) (h2 : hi ≤ hi') : OwnS lo' hi' b l w := by
  rcases h with h | ⟨F, h3, h4, e, hr⟩
  · exact Or.inl h
  · exact Or.inr ⟨F, by omega, by omega, e, hr⟩
/-- a layer's blocks and data in memory of their own -/
def OwnY (lo hi : Nat) (p q : Option Addr) (bl : List Int) (dt : List ByteArray) (w : World) : Prop := ∃ mid, lo ≤ mid ∧ mid ≤ hi ∧ OwnI lo mid p bl w ∧ OwnS mid hi q dt w
theorem OwnY.set {lo hi : Nat} {p q : Option Addr} {bl : List Int} {dt : List ByteArray} {w : World} (h : OwnY lo hi p q bl dt w) (R i : Nat) (v : Value) (hR : R < lo ∨ hi ≤ R) : OwnY lo hi p q bl dt (w.setCell ⟨R, i, none⟩ v) := by
  obtain ⟨mid, h1, h2, h3, h4⟩ := h
  exact ⟨mid, h1, h2, own_setI h3 R i v (by omega), own_setS h4 R i v (by omega)⟩
theorem OwnY.wide {lo hi lo' hi' : Nat} {p q : Option Addr} {bl : List Int} {dt : List ByteArray} {w : World} (h : OwnY lo hi p q bl dt w) (g1 : lo' ≤ lo) (g2 : hi ≤ hi') : OwnY lo' hi' p q bl dt w := by
  obtain ⟨mid, h1, h2, h3, h4⟩ := h
  exact ⟨mid, by omega, by omega, own_wideI h3 g1 (Nat.le_refl _), own_wideS h4 (Nat.le_refl _) g2⟩
theorem OwnY.below {lo hi : Nat} {p q : Option Addr} {bl : List Int} {dt : List ByteArray} {w w' : World} (h : OwnY lo hi p q bl dt w) (g : Below w.heap.size w w') : OwnY lo hi p q bl dt w' := by
  obtain ⟨mid, h1, h2, h3, h4⟩ := h
  exact ⟨mid, h1, h2, h3.below g, h4.below g⟩
theorem set3 (m : Int) (a b c d : Value) : ((#[.int .i64 0, a, b] : Array Value).setIfInBounds 0 (.int .i64 m)) = #[.int .i64 m, a, b] ∧ ((#[.int .i64 m, a, b] : Array Value).setIfInBounds 1 c) = #[.int .i64 m, c, b] ∧ ((#[.int .i64 m, c, b] : Array Value).setIfInBounds 2 d) = #[.int .i64 m, c, d] := ⟨rfl, rfl, rfl⟩
set_option maxHeartbeats 4000000 in
theorem toLayer_any (p q : Option Addr) (c d : Nat) (m : Int) (bl : List Int) (dt : List ByteArray) (w : World) (h1 : bl.length ≤ 1048576) (h2 : dt.length ≤ 1048576) (hI : Is w.heap.size p bl w) (hS : Ss w.heap.size q dt w) :
    Calls Try.prog 60 #[.agg #[.int .i64 m, .slice p bl.length c, .slice q dt.length d]] w fun e w' => ∃ p' c' q' d', e = .returned (.agg #[.int .i64 m, .slice p' bl.length c', .slice q' dt.length d']) ∧ OwnY w.heap.size w'.heap.size p' q' bl dt w' ∧ Below w.heap.size w w' := by
  have HK := hid (T3.start w #[.int .i64 m, .slice p bl.length c, .slice q dt.length d] #[.int .i64 0, .slice none 0 0, .slice none 0 0] #[.int .i64 0, .slice none 0 0, .slice none 0 0])
  have HC1 : Hid (∀ v, Below w.heap.size w v → Calls Try.prog 80 #[.slice p bl.length c] v fun e w' => ∃ b c, e = .returned (.slice b bl.length c) ∧ OwnI v.heap.size w'.heap.size b bl w' ∧ Below v.heap.size v w') := fun v g => to_ownI p c bl v h1 ((hI.below g).mono g.size)
  have HC2 : Hid (∀ v, Below w.heap.size w v → Calls Try.prog 81 #[.slice q dt.length d] v fun e w' => e = .returned (.slice (some ⟨v.heap.size, 0, none⟩) dt.length dt.length) ∧ SRow v.heap.size dt w' ∧ Below v.heap.size v w') := fun v g => toStringS_any q d dt v h2 ((hS.below g).mono g.size)
  clear hI hS h1 h2
  generalize hW : ((w.alloc (.cells #[.int .i64 m, .slice p bl.length c, .slice q dt.length d] 85)).alloc (.cells #[.int .i64 0, .slice none 0 0, .slice none 0 0] 79)).alloc (.cells #[.int .i64 0, .slice none 0 0, .slice none 0 0] 79) = W at *
  have x0 : W.cell? ⟨w.heap.size, 0, none⟩ = some (.int .i64 m) := box_cell HK.out.x 0
  have y0 : W.cell? ⟨w.heap.size + 1 + 1, 0, none⟩ = some (.int .i64 0) := box_cell HK.out.y 0
  have f0 : W.frozen? ⟨w.heap.size + 1 + 1, 0, none⟩ = false := box_free HK.out.y 0
  have HK1 : Hid (T3 w #[.int .i64 m, .slice p bl.length c, .slice q dt.length d] #[.int .i64 0, .slice none 0 0, .slice none 0 0] #[.int .i64 m, .slice none 0 0, .slice none 0 0] (W.setCell ⟨w.heap.size + 1 + 1, 0, none⟩ (.int .i64 m))) := HK.out.setY 0 (.int .i64 m)
  have x1 : (W.setCell ⟨w.heap.size + 1 + 1, 0, none⟩ (.int .i64 m)).cell? ⟨w.heap.size, 1, none⟩ = some (.slice p bl.length c) := box_cell HK1.out.x 1
  go_enter Try.func60, Try.ntmps60
  go_wp2_with fail
  clear hW HK x0 y0 f0
  generalize W.setCell ⟨w.heap.size + 1 + 1, 0, none⟩ (.int .i64 m) = W1 at *
  refine (HC1.out W1 HK1.out.below).mono ?_
  rintro e w2 ⟨b, cb, rfl, o2, b2⟩
  have hK2 := HK1.out.on b2
  have hs1 := HK1.out.size
  have hs2 := b2.size
  have HO2 := hid o2
  clear b2 o2 HC1 HK1 x1
  have y1 : w2.cell? ⟨w.heap.size + 1 + 1, 1, none⟩ = some (.slice none 0 0) := box_cell hK2.y 1
  have f1 : w2.frozen? ⟨w.heap.size + 1 + 1, 1, none⟩ = false := box_free hK2.y 1
  have HK3 : Hid (T3 w #[.int .i64 m, .slice p bl.length c, .slice q dt.length d] #[.int .i64 0, .slice none 0 0, .slice none 0 0] #[.int .i64 m, .slice b bl.length cb, .slice none 0 0] (w2.setCell ⟨w.heap.size + 1 + 1, 1, none⟩ (.slice b bl.length cb))) := hK2.setY 1 (.slice b bl.length cb)
  have x2 : (w2.setCell ⟨w.heap.size + 1 + 1, 1, none⟩ (.slice b bl.length cb)).cell? ⟨w.heap.size, 2, none⟩ = some (.slice q dt.length d) := box_cell HK3.out.x 2
  have HO3 := hid (own_setI HO2.out (w.heap.size + 1 + 1) 1 (.slice b bl.length cb) (Or.inl (by omega)))
  have hz3 : (w2.setCell ⟨w.heap.size + 1 + 1, 1, none⟩ (.slice b bl.length cb)).heap.size = w2.heap.size := by simp [World.setCell]
  clear hK2 HO2
  go_wp2_with fail
  clear y1 f1
  generalize w2.setCell ⟨w.heap.size + 1 + 1, 1, none⟩ (.slice b bl.length cb) = W3 at *
  refine (HC2.out W3 HK3.out.below).mono ?_
  rintro e w4 ⟨rfl, r4, b4⟩
  have hK4 := HK3.out.on b4
  have HO4 := hid (HO3.out.below b4)
  have HR4 := hid r4
  have hlt4 := r4.lt
  clear b4 r4 HC2 HK3 HO3 x2
  rw [hz3] at HR4 hlt4 ⊢
  have y2 : w4.cell? ⟨w.heap.size + 1 + 1, 2, none⟩ = some (.slice none 0 0) := box_cell hK4.y 2
  have f2 : w4.frozen? ⟨w.heap.size + 1 + 1, 2, none⟩ = false := box_free hK4.y 2
  have y0 : w4.cell? ⟨w.heap.size + 1 + 1, 0, none⟩ = some (.int .i64 m) := box_cell hK4.y 0
  have y1 : w4.cell? ⟨w.heap.size + 1 + 1, 1, none⟩ = some (.slice b bl.length cb) := box_cell hK4.y 1
  have z0 : w4.cell? ⟨w.heap.size + 1, 0, none⟩ = some (.int .i64 0) := box_cell hK4.z 0
  have z1 : w4.cell? ⟨w.heap.size + 1, 1, none⟩ = some (.slice none 0 0) := box_cell hK4.z 1
  have z2 : w4.cell? ⟨w.heap.size + 1, 2, none⟩ = some (.slice none 0 0) := box_cell hK4.z 2
  have g0 : w4.frozen? ⟨w.heap.size + 1, 0, none⟩ = false := box_free hK4.z 0
  have g1 : w4.frozen? ⟨w.heap.size + 1, 1, none⟩ = false := box_free hK4.z 1
  have g2 : w4.frozen? ⟨w.heap.size + 1, 2, none⟩ = false := box_free hK4.z 2
  have hK5 : T3 w #[.int .i64 m, .slice p bl.length c, .slice q dt.length d] #[.int .i64 0, .slice none 0 0, .slice none 0 0] #[.int .i64 m, .slice b bl.length cb, .slice (some ⟨w2.heap.size, 0, none⟩) dt.length dt.length] (w4.setCell ⟨w.heap.size + 1 + 1, 2, none⟩ (.slice (some ⟨w2.heap.size, 0, none⟩) dt.length dt.length)) := hK4.setY 2 _
  have hK6 := ((hK5.setZ 0 (.int .i64 m)).setZ 1 (.slice b bl.length cb)).setZ 2 (.slice (some ⟨w2.heap.size, 0, none⟩) dt.length dt.length)
  have e0 := box_cell hK6.z 0
  have e1 := box_cell hK6.z 1
  have e2 := box_cell hK6.z 2
  have HB6 := hid hK6.below
  have hO6 : OwnY w.heap.size w4.heap.size b (some ⟨w2.heap.size, 0, none⟩) bl dt w4 := ⟨w2.heap.size, by omega, by omega, own_wideI HO4.out (by omega) (by omega), Or.inr ⟨w2.heap.size, Nat.le_refl _, hlt4, rfl, HR4.out⟩⟩
  have hO5 : OwnY (w.heap.size + 3) w4.heap.size b (some ⟨w2.heap.size, 0, none⟩) bl dt w4 := ⟨w2.heap.size, by omega, by omega, own_wideI HO4.out (by omega) (by omega), Or.inr ⟨w2.heap.size, Nat.le_refl _, hlt4, rfl, HR4.out⟩⟩
  have hO7 := (((hO5.set (w.heap.size + 1 + 1) 2 (.slice (some ⟨w2.heap.size, 0, none⟩) dt.length dt.length) (by omega)).set (w.heap.size + 1) 0 (.int .i64 m) (by omega)).set (w.heap.size + 1) 1 (.slice b bl.length cb) (by omega)).set (w.heap.size + 1) 2 (.slice (some ⟨w2.heap.size, 0, none⟩) dt.length dt.length) (by omega)
  have hz7 : ((((w4.setCell ⟨w.heap.size + 1 + 1, 2, none⟩ (.slice (some ⟨w2.heap.size, 0, none⟩) dt.length dt.length)).setCell ⟨w.heap.size + 1, 0, none⟩ (.int .i64 m)).setCell ⟨w.heap.size + 1, 1, none⟩ (.slice b bl.length cb)).setCell ⟨w.heap.size + 1, 2, none⟩ (.slice (some ⟨w2.heap.size, 0, none⟩) dt.length dt.length)).heap.size = w4.heap.size := by simp [World.setCell]
  have HO7 := hid hO7
  have HZ7 := hid hz7
  clear hK4 hK5 hK6 hO5 hO6 hO7 hz7 HR4 HO4
  go_wp2_with fail
  generalize (((w4.setCell ⟨w.heap.size + 1 + 1, 2, none⟩ (.slice (some ⟨w2.heap.size, 0, none⟩) dt.length dt.length)).setCell ⟨w.heap.size + 1, 0, none⟩ (.int .i64 m)).setCell ⟨w.heap.size + 1, 1, none⟩ (.slice b bl.length cb)).setCell ⟨w.heap.size + 1, 2, none⟩ (.slice (some ⟨w2.heap.size, 0, none⟩) dt.length dt.length) = W6 at *
  have e0' : W6.cell? ⟨w.heap.size + 1, 0, none⟩ = some (.int .i64 m) := e0
  have e1' : W6.cell? ⟨w.heap.size + 1, 1, none⟩ = some (.slice b bl.length cb) := e1
  have e2' : W6.cell? ⟨w.heap.size + 1, 2, none⟩ = some (.slice (some ⟨w2.heap.size, 0, none⟩) dt.length dt.length) := e2
  refine bodyPost_ret (v := .agg #[.int .i64 m, .slice b bl.length cb, .slice (some ⟨w2.heap.size, 0, none⟩) dt.length dt.length]) (by simp [results, Try.results60, go_sem, e0', e1', e2']) rfl ?_
  exact ⟨_, _, _, _, rfl, by rw [HZ7.out]; exact HO7.out.wide (by omega) (Nat.le_refl _), HB6.out⟩
/-- a new layer in the place of the k-th -/
theorem LyOwn.lay {lo hi R : Nat} {A : Nat → LA} {S : List Ly} {w w1 : World} (h : LyOwn lo hi R A S w) (g : Below w.heap.size w w1) (k : Nat) (hk : k < S.length) (y : Ly) (p q : Option Addr) (c d : Nat) (ho : OwnY w.heap.size w1.heap.size p q y.bl y.dt w1) :
    ∃ a, LyOwn lo w1.heap.size R (updA A k a) (S.set k y) (((w1.setCell ⟨R, k * 3, none⟩ (.int .i64 y.mark)).setCell ⟨R, k * 3 + 1, none⟩ (.slice p y.bl.length c)).setCell ⟨R, k * 3 + 2, none⟩ (.slice q y.dt.length d)) := by
  obtain ⟨mid, m1, m2, hI, hS⟩ := ho
  have hR : R < w.heap.size := Nat.lt_of_lt_of_le h.r1 h.r2
  have h1 := h.on g
  have hgs := g.size
  have hr2 := h.r2
  have hr0 := h.r0
  obtain ⟨F, hF⟩ : ∃ F, y.bl = [] ∨ (w.heap.size ≤ F ∧ F < mid ∧ p = some ⟨F, 0, none⟩ ∧ IRow F y.bl w1) := by
    rcases hI with h0 | ⟨F, f1, f2, f3, f4⟩
    · exact ⟨0, Or.inl h0⟩
    · exact ⟨F, Or.inr ⟨f1, f2, f3, f4⟩⟩
  obtain ⟨G, hG⟩ : ∃ G, y.dt = [] ∨ (mid ≤ G ∧ G < w1.heap.size ∧ q = some ⟨G, 0, none⟩ ∧ SRow G y.dt w1) := by
    rcases hS with h0 | ⟨F, f1, f2, f3, f4⟩
    · exact ⟨0, Or.inl h0⟩
    · exact ⟨F, Or.inr ⟨f1, f2, f3, f4⟩⟩
  have off : ∀ (a b' : Nat), a ≠ b' → (⟨R, a, none⟩ : Addr) ≠ ⟨R, b', none⟩ := fun a b' hab e => hab (congrArg Addr.off e)
  obtain ⟨c1, c2, c3⟩ := h1.cell k hk
  have hsz : (((w1.setCell ⟨R, k * 3, none⟩ (.int .i64 y.mark)).setCell ⟨R, k * 3 + 1, none⟩ (.slice p y.bl.length c)).setCell ⟨R, k * 3 + 2, none⟩ (.slice q y.dt.length d)).heap.size = w1.heap.size := by simp [World.setCell]
  have hblk : ∀ X, X ≠ R → (((w1.setCell ⟨R, k * 3, none⟩ (.int .i64 y.mark)).setCell ⟨R, k * 3 + 1, none⟩ (.slice p y.bl.length c)).setCell ⟨R, k * 3 + 2, none⟩ (.slice q y.dt.length d)).heap[X]? = w1.heap[X]? := fun X hX => by
    rw [keepB _ _ _ _ _ hX, keepB _ _ _ _ _ hX, keepB _ _ _ _ _ hX]
  refine ⟨⟨p, c, F, q, d, G⟩, h1.put k hk y _ w1.heap.size _ (by omega) (by rw [hsz]; exact Nat.le_refl _) (by rw [hsz]; exact Nat.le_refl _) ?_ ?_ ?_ ?_ ?_ ?_ ?_ ?_ ?_⟩
  · rw [World.cell?_setCell_other _ _ _ _ (off _ _ (by omega)), World.cell?_setCell_other _ _ _ _ (off _ _ (by omega))]
    exact World.cell?_setCell_same _ _ _ c1
  · rw [World.cell?_setCell_other _ _ _ _ (off _ _ (by omega))]
    have c3 : (w1.setCell ⟨R, k * 3, none⟩ (.int .i64 y.mark)).cell? ⟨R, k * 3 + 1, none⟩ = some (.slice (A k).p S[k].bl.length (A k).c) := by
      rw [World.cell?_setCell_other _ _ _ _ (off _ _ (by omega))]; exact c2
    exact World.cell?_setCell_same _ _ _ c3
  · have c4 : ((w1.setCell ⟨R, k * 3, none⟩ (.int .i64 y.mark)).setCell ⟨R, k * 3 + 1, none⟩ (.slice p y.bl.length c)).cell? ⟨R, k * 3 + 2, none⟩ = some (.slice (A k).q S[k].dt.length (A k).d) := by
      rw [World.cell?_setCell_other _ _ _ _ (off _ _ (by omega)), World.cell?_setCell_other _ _ _ _ (off _ _ (by omega))]; exact c3
    exact World.cell?_setCell_same _ _ _ c4
  · intro o ho
    rw [World.cell?_setCell_other _ _ _ _ (off _ _ (by omega)), World.cell?_setCell_other _ _ _ _ (off _ _ (by omega)), World.cell?_setCell_other _ _ _ _ (off _ _ (by omega))]
  · intro o
    rw [World.frozen?_setCell, World.frozen?_setCell, World.frozen?_setCell]
  · intro X _ _ hX _ _
    exact hblk X hX
  · rcases hF with h0 | ⟨f1, f2, f3, f4⟩
    · exact Or.inl h0
    · exact Or.inr ⟨by show lo ≤ F; omega, by show F < _; omega, by show F ≠ R; omega, f3, f4.same (by rw [hsz]; exact Nat.le_refl _) (hblk F (by omega)), Or.inl (by show hi ≤ F; omega)⟩
  · rcases hG with h0 | ⟨f1, f2, f3, f4⟩
    · exact Or.inl h0
    · exact Or.inr ⟨by show lo ≤ G; omega, by show G < _; omega, by show G ≠ R; omega, f3, f4.same (by rw [hsz]; exact Nat.le_refl _) (hblk G (by omega)), Or.inl (by show hi ≤ G; omega)⟩
  · intro e1 e2
    obtain ⟨f1, f2, _⟩ := hF.resolve_left e1
    obtain ⟨g1, g2, _⟩ := hG.resolve_left e2
    show F ≠ G
    omega
theorem infoLy : (Try.prog.info? 79).map (fun i => (i.zero, i.size, i.bytes)) = some (some (.agg #[.int .i64 0, .slice none 0 0, .slice none 0 0]), 3, 56) := by kernel_rfl
theorem make_lys (n : Nat) (hn : n ≤ 1048576) (W : World) : (Instr.makeSlice 28 (.int .i64 (n : Int)) (.int .i64 (n : Int))).run Try.prog W =
    .ok (.slice (some ⟨W.heap.size, 0, none⟩) n n) (W.alloc (.cells (madeCells (Value.agg #[.int .i64 0, .slice none 0 0, .slice none 0 0]).cells (n * 3)) 79)) := by
  obtain ⟨i0, hi, hz0, hz1, hz2⟩ := info_parts infoLy
  have h := run_make (P := Try.prog) W 28 79 i0 _ Try.underlying28 hi hz0 .i64 .i64 (n : Int) (n : Int) (by omega) (by omega) (by rw [hz2]; omega) (by omega)
  rw [hz1] at h
  simpa using h
theorem LyOwn.made (w : World) (n : Nat) : LyOwn w.heap.size (w.heap.size + 1) w.heap.size (fun _ => ⟨none, 0, 0, none, 0, 0⟩) (List.replicate n ⟨0, [], []⟩) (w.alloc (.cells (madeCells (Value.agg #[.int .i64 0, .slice none 0 0, .slice none 0 0]).cells (n * 3)) 79)) := by
  have h := GRow.made w 79 n #[.int .i64 0, .slice none 0 0, .slice none 0 0]
  refine ⟨Nat.le_refl _, by omega, by simp, fun i hi => ?_, fun j hj => ?_, fun i hi => Or.inl (by simp), fun i hi => Or.inl (by simp), fun i j hi hj _ ei _ => absurd (by simp) ei, fun i j hi hj _ ei _ => absurd (by simp) ei, fun i j hi hj ei _ => absurd (by simp) ei⟩
  · have h0 := h.cell i (by simpa using hi) 0 (by decide)
    have h1 := h.cell i (by simpa using hi) 1 (by decide)
    have h2 := h.cell i (by simpa using hi) 2 (by decide)
    rw [List.getElem_replicate] at h0 h1 h2
    rw [List.getElem_replicate]
    exact ⟨h0, h1, h2⟩
  · exact h.free j (by simpa using hj)
theorem set_take {α : Type} (ys l : List α) (k : Nat) (hy : ys.length = l.length) (hk : k < l.length) (h : ys.take k = l.take k) : (ys.set k l[k]).take (k + 1) = l.take (k + 1) := by
  have hky : k < ys.length := by omega
  rw [take_snoc _ k (by simpa using hky), take_snoc l k hk, List.take_set_of_le (Nat.le_refl _), h, List.getElem_set_self]
set_option maxHeartbeats 2000000 in
theorem toLayerS_any (a : Option Addr) (cap : Nat) (S : List Ly) (w : World) (hf : FitK S) (hG : Ys w.heap.size a S w) :
    Calls Try.prog 35 #[.slice a S.length cap] w fun e w' => e = .returned (.slice (some ⟨w.heap.size, 0, none⟩) S.length S.length) ∧ (∃ A, LyOwn w.heap.size w'.heap.size w.heap.size A S w') ∧ Below w.heap.size w w' := by
  have HG := hid hG
  have HF := hid hf
  have hn := hf.len
  clear hG hf
  have hmk := make_lys S.length hn
  have hr0 := LyOwn.made w S.length
  generalize madeCells (Value.agg #[.int .i64 0, .slice none 0 0, .slice none 0 0]).cells (S.length * 3) = M at *
  have HR : Hid (LyOwn w.heap.size (w.alloc (.cells M 79)).heap.size w.heap.size (fun _ => ⟨none, 0, 0, none, 0, 0⟩) (List.replicate S.length ⟨0, [], []⟩) (w.alloc (.cells M 79))) := by
    show LyOwn w.heap.size (w.alloc (.cells M 79)).heap.size w.heap.size (fun _ => ⟨none, 0, 0, none, 0, 0⟩) (List.replicate S.length ⟨0, [], []⟩) (w.alloc (.cells M 79))
    rw [heap_size]
    exact hr0
  clear hr0
  go_enter Try.func35, Try.ntmps35
  go_wp2_with fail
  go_loopw [4] (fun i wr => ∃ (k : Nat) (ys : List Ly), k ≤ S.length ∧ i = .int .i64 k ∧ ys.length = S.length ∧ ys.take k = S.take k ∧ (∃ A, LyOwn w.heap.size wr.heap.size w.heap.size A ys wr) ∧ Below w.heap.size w wr) (fun i _ => S.length - (intOf i).toNat)
  case atStart => exact ⟨0, List.replicate S.length ⟨0, [], []⟩, Nat.zero_le _, rfl, by simp, rfl, ⟨_, HR.out⟩, boxB w _⟩
  case round =>
    clear HR hmk
    obtain ⟨k, ys, hk, rfl, hy, htk, ⟨A, hrow⟩, hbel⟩ := hrel
    have HROW := hid hrow
    have HBEL := hid hbel
    have HTK := hid htk
    by_cases hlt : k < S.length
    · obtain ⟨b, off, rfl, hb, hcl⟩ := HG.out (by omega)
      obtain ⟨p, c, q, d, c0, c1, c2, hI, hS⟩ := hcl k hlt
      have kc : ∀ o, wr.cell? ⟨b, o, none⟩ = w.cell? ⟨b, o, none⟩ := fun o => hbel.cell (p := ⟨b, o, none⟩) hb
      rw [← kc] at c0 c1 c2
      obtain ⟨y0, y1, y2⟩ := hrow.cell k (by omega)
      have f0 := hrow.free (k * 3) (by omega)
      have f1 := hrow.free (k * 3 + 1) (by omega)
      have f2 := hrow.free (k * 3 + 2) (by omega)
      have hszr := hbel.size
      have hltr : w.heap.size < wr.heap.size := hrow.r1
      have hm1 := HF.out.bl k hlt
      have hm2 := HF.out.dt k hlt
      have HST := hid (set_take ys S k hy hlt htk)
      generalize hs : S[k] = s at *
      obtain ⟨m, bl, dt⟩ := s
      simp only at c0 c1 c2 hm1 hm2 hI hS
      have HC := hid (toLayer_any p q c d m bl dt wr hm1 hm2 ((hI.below hbel).mono hszr) ((hS.below hbel).mono hszr))
      clear hcl hrow hbel htk hI hS hs kc
      go_wp2_with fail
      refine HC.out.mono ?_
      rintro e w1 ⟨p', c', q', d', rfl, ho, b1⟩
      have hc1 : ∀ o, w1.cell? ⟨w.heap.size, o, none⟩ = wr.cell? ⟨w.heap.size, o, none⟩ := fun o => b1.cell (p := ⟨w.heap.size, o, none⟩) hltr
      have hf1 : ∀ o, w1.frozen? ⟨w.heap.size, o, none⟩ = wr.frozen? ⟨w.heap.size, o, none⟩ := fun o => b1.frozen (p := ⟨w.heap.size, o, none⟩) hltr
      rw [← hc1] at y0 y1 y2
      rw [← hf1] at f0 f1 f2
      obtain ⟨F, hF⟩ := HROW.out.lay b1 k (by omega) ⟨m, bl, dt⟩ p' q' c' d' ho
      simp only at hF
      have HSET : Hid (LyOwn w.heap.size (((w1.setCell ⟨w.heap.size, k * 3, none⟩ (.int .i64 m)).setCell ⟨w.heap.size, k * 3 + 1, none⟩ (.slice p' bl.length c')).setCell ⟨w.heap.size, k * 3 + 2, none⟩ (.slice q' dt.length d')).heap.size w.heap.size (updA A k F) (ys.set k ⟨m, bl, dt⟩) (((w1.setCell ⟨w.heap.size, k * 3, none⟩ (.int .i64 m)).setCell ⟨w.heap.size, k * 3 + 1, none⟩ (.slice p' bl.length c')).setCell ⟨w.heap.size, k * 3 + 2, none⟩ (.slice q' dt.length d'))) := by
        have e : (((w1.setCell ⟨w.heap.size, k * 3, none⟩ (.int .i64 m)).setCell ⟨w.heap.size, k * 3 + 1, none⟩ (.slice p' bl.length c')).setCell ⟨w.heap.size, k * 3 + 2, none⟩ (.slice q' dt.length d')).heap.size = w1.heap.size := by simp [World.setCell]
        unfold Hid
        rw [e]
        exact hF
      have HB1 : Hid (Below w.heap.size w (((w1.setCell ⟨w.heap.size, k * 3, none⟩ (.int .i64 m)).setCell ⟨w.heap.size, k * 3 + 1, none⟩ (.slice p' bl.length c')).setCell ⟨w.heap.size, k * 3 + 2, none⟩ (.slice q' dt.length d'))) := setB (setB (setB (HBEL.out.trans (b1.mono hszr)) _ _ (Nat.le_refl _) _) _ _ (Nat.le_refl _) _) _ _ (Nat.le_refl _) _
      clear hc1 hf1 b1 hF ho HC c0 c1 c2
      go_wp2_with fail
      go_roundw
      case rel => exact ⟨k + 1, ys.set k ⟨m, bl, dt⟩, by omega, by go_num, by simpa using hy, HST.out, ⟨_, HSET.out⟩, HB1.out⟩
      case measure => simp [intOf]; omega
    · obtain rfl : k = S.length := by omega
      rw [List.take_length, List.take_of_length_le (by omega)] at htk
      subst htk
      clear hrow hbel
      go_wp2_with fail
      go_ret
      exact ⟨rfl, ⟨_, HROW.out⟩, HBEL.out⟩
set_option maxHeartbeats 2000000 in
theorem toMarks_any (a : Option Addr) (cap : Nat) (S : List Ly) (w : World) (hf : FitK S) (hG : Ys w.heap.size a S w) :
    Calls Try.prog 11 #[.agg #[.slice a S.length cap]] w fun e w' => ∃ b c, e = .returned (.agg #[.slice b S.length c]) ∧ OwnK w.heap.size w'.heap.size b S w' ∧ Below w.heap.size w w' ∧ S.length ≤ c := by
  have hb0 : Below w.heap.size w (((w.alloc (.cells #[.slice a S.length cap] 24)).alloc (.cells #[.slice none 0 0] 30)).alloc (.cells #[.slice none 0 0] 30)) := (((Below.refl _ _).alloc (Nat.le_refl _) _).alloc (by simp) _).alloc (by simp; omega) _
  have hx : (((w.alloc (.cells #[.slice a S.length cap] 24)).alloc (.cells #[.slice none 0 0] 30)).alloc (.cells #[.slice none 0 0] 30)).heap[w.heap.size]? = some (.cells #[.slice a S.length cap] 24) := by
    rw [Below.heap_alloc _ _ _ (by simp; omega), Below.heap_alloc _ _ _ (by simp)]
    exact heap_last _ _
  have hz : (((w.alloc (.cells #[.slice a S.length cap] 24)).alloc (.cells #[.slice none 0 0] 30)).alloc (.cells #[.slice none 0 0] 30)).heap[w.heap.size + 1]? = some (.cells #[.slice none 0 0] 30) := heap_mid3 _ _ _ _
  have hy : (((w.alloc (.cells #[.slice a S.length cap] 24)).alloc (.cells #[.slice none 0 0] 30)).alloc (.cells #[.slice none 0 0] 30)).heap[w.heap.size + 1 + 1]? = some (.cells #[.slice none 0 0] 30) := heap_last3 _ _ _ _
  have hsz : (((w.alloc (.cells #[.slice a S.length cap] 24)).alloc (.cells #[.slice none 0 0] 30)).alloc (.cells #[.slice none 0 0] 30)).heap.size = w.heap.size + 3 := by simp
  have HC := hid (toLayerS_any a cap S _ hf ((hG.below hb0).mono hb0.size))
  have HB0 := hid hb0
  have HZ := hid hz
  have HY := hid hy
  have x0 : (((w.alloc (.cells #[.slice a S.length cap] 24)).alloc (.cells #[.slice none 0 0] 30)).alloc (.cells #[.slice none 0 0] 30)).cell? ⟨w.heap.size, 0, none⟩ = some (.slice a S.length cap) := box_cell hx 0
  clear hG hf hb0 hx hz hy
  generalize hW : ((w.alloc (.cells #[.slice a S.length cap] 24)).alloc (.cells #[.slice none 0 0] 30)).alloc (.cells #[.slice none 0 0] 30) = W at *
  rw [hsz] at HC
  go_enter Try.func11, Try.ntmps11
  go_wp2_with fail
  clear hW
  refine HC.out.mono ?_
  rintro e w2 ⟨rfl, ⟨A, o2⟩, b2⟩
  have hb2 : Below W.heap.size W w2 := by rw [hsz]; exact b2
  have hz2 := (hb2.block _ (by omega)).trans HZ.out
  have hy2 := (hb2.block _ (by omega)).trans HY.out
  have hlt2 := o2.r1
  have y0 : w2.cell? ⟨w.heap.size + 1 + 1, 0, none⟩ = some (.slice none 0 0) := box_cell hy2 0
  have f0 : w2.frozen? ⟨w.heap.size + 1 + 1, 0, none⟩ = false := box_free hy2 0
  have z0 : w2.cell? ⟨w.heap.size + 1, 0, none⟩ = some (.slice none 0 0) := box_cell hz2 0
  have g0 : w2.frozen? ⟨w.heap.size + 1, 0, none⟩ = false := box_free hz2 0
  have HB2 : Hid (Below w.heap.size w ((w2.setCell ⟨w.heap.size + 1 + 1, 0, none⟩ (.slice (some ⟨w.heap.size + 3, 0, none⟩) S.length S.length)).setCell ⟨w.heap.size + 1, 0, none⟩ (.slice (some ⟨w.heap.size + 3, 0, none⟩) S.length S.length))) := setB (setB (HB0.out.trans (b2.mono (by omega))) _ _ (by omega) _) _ _ (by omega) _
  have HO2 : Hid (LyOwn (w.heap.size + 3) w2.heap.size (w.heap.size + 3) A S ((w2.setCell ⟨w.heap.size + 1 + 1, 0, none⟩ (.slice (some ⟨w.heap.size + 3, 0, none⟩) S.length S.length)).setCell ⟨w.heap.size + 1, 0, none⟩ (.slice (some ⟨w.heap.size + 3, 0, none⟩) S.length S.length))) := o2.keep (by simp [World.setCell]) (fun X h1 h2 => by rw [keepB _ _ _ _ _ (by omega), keepB _ _ _ _ _ (by omega)])
  have HZ2 : Hid (((w2.setCell ⟨w.heap.size + 1 + 1, 0, none⟩ (.slice (some ⟨w.heap.size + 3, 0, none⟩) S.length S.length)).setCell ⟨w.heap.size + 1, 0, none⟩ (.slice (some ⟨w.heap.size + 3, 0, none⟩) S.length S.length)).heap.size = w2.heap.size) := by
    show ((w2.setCell ⟨w.heap.size + 1 + 1, 0, none⟩ (.slice (some ⟨w.heap.size + 3, 0, none⟩) S.length S.length)).setCell ⟨w.heap.size + 1, 0, none⟩ (.slice (some ⟨w.heap.size + 3, 0, none⟩) S.length S.length)).heap.size = w2.heap.size
    simp [World.setCell]
  have e0 : ((w2.setCell ⟨w.heap.size + 1 + 1, 0, none⟩ (.slice (some ⟨w.heap.size + 3, 0, none⟩) S.length S.length)).setCell ⟨w.heap.size + 1, 0, none⟩ (.slice (some ⟨w.heap.size + 3, 0, none⟩) S.length S.length)).cell? ⟨w.heap.size + 1, 0, none⟩ = some (.slice (some ⟨w.heap.size + 3, 0, none⟩) S.length S.length) := box_cell (box_set ((keepB _ _ _ _ _ (by omega)).trans hz2) 0 _) 0
  clear o2 b2 hb2 hz2 hy2 HC x0 HY HZ
  go_wp2_with fail
  generalize (w2.setCell ⟨w.heap.size + 1 + 1, 0, none⟩ (.slice (some ⟨w.heap.size + 3, 0, none⟩) S.length S.length)).setCell ⟨w.heap.size + 1, 0, none⟩ (.slice (some ⟨w.heap.size + 3, 0, none⟩) S.length S.length) = XX at *
  refine bodyPost_ret (v := .agg #[.slice (some ⟨w.heap.size + 3, 0, none⟩) S.length S.length]) (by simp [results, Try.results11, go_sem, e0]) rfl ?_
  refine ⟨_, _, rfl, Or.inr ⟨_, A, rfl, ?_⟩, HB2.out, Nat.le_refl _⟩
  have h := HO2.out
  rw [HZ2.out]
  exact ⟨by have := h.r0; omega, h.r1, h.r2, h.cell, h.free, fun i hi => (h.ownB i hi).imp id (fun ⟨a1, a2⟩ => ⟨by omega, a2⟩), fun i hi => (h.ownD i hi).imp id (fun ⟨a1, a2⟩ => ⟨by omega, a2⟩), h.bb, h.dd, h.bd⟩
end Go.Proofs.Ytiionfmpbifbcaa
