/- A drawn device under way: what the walk of the drawing keeps. -/
import Derived.Test.YteofdaecknlkdaaTells
import Derived.Test.YteofdaecknlkdaaPiece
namespace Go.Proofs.Yteofdaecknlkdaa
open Go Go.RowKit
def smallZ (M : Int) (z : Zn) : Prop := z.data.size ≤ 60 ∧ 0 ≤ z.sure ∧ z.sure ≤ M
def small (M : Int) (zs : List Zn) : Prop := 1 ≤ zs.length ∧ zs.length ≤ 6 ∧ ∀ z ∈ zs, smallZ M z
theorem small_up {M : Int} {zs : List Zn} (h : small 60 zs) (hM : 60 ≤ M) : small M zs := ⟨h.1, h.2.1, fun z hz => ⟨(h.2.2 z hz).1, (h.2.2 z hz).2.1, by have := (h.2.2 z hz).2.2; omega⟩⟩
theorem goodZ_small {z : Zn} (h : goodZ z = true) : smallZ 60 z := by
  have := of_decide_eq_true h
  exact ⟨this.1, this.2.1, by omega⟩
theorem good_small {zs : List Zn} (h : goodD zs = true) : small 60 zs := by
  refine ⟨(goodD_len h).1, (goodD_len h).2, fun z hz => ?_⟩
  obtain ⟨i, hi, rfl⟩ := List.mem_iff_getElem.1 hz
  exact goodZ_small (goodD_at h i hi)
theorem small_set {M : Int} {zs : List Zn} (h : small M zs) (n : Nat) (z : Zn) (hz : smallZ M z) : small M (zs.set n z) := by
  refine ⟨by rw [List.length_set]; exact h.1, by rw [List.length_set]; exact h.2.1, fun y hy => ?_⟩
  rcases List.mem_or_eq_of_mem_set hy with hy | rfl
  · exact h.2.2 y hy
  · exact hz
theorem small_at {M : Int} {zs : List Zn} (h : small M zs) (n : Nat) (hn : n < zs.length) : smallZ M zs[n] := h.2.2 _ (List.getElem_mem hn)
theorem small_flush {zs : List Zn} (h : small 60 zs) : small 60 (zs.map flushZ) := by
  refine ⟨by rw [List.length_map]; exact h.1, by rw [List.length_map]; exact h.2.1, fun y hy => ?_⟩
  obtain ⟨z, hz, rfl⟩ := List.mem_map.1 hy
  have := h.2.2 z hz
  unfold smallZ at this ⊢
  show z.data.size ≤ 60 ∧ (0 : Int) ≤ (z.data.size : Int) ∧ (z.data.size : Int) ≤ 60
  omega
theorem small_new (n : Nat) (h1 : 1 ≤ n) (h2 : n ≤ 6) : small 60 (List.replicate n zeroZ) := by
  refine ⟨by rw [List.length_replicate]; exact h1, by rw [List.length_replicate]; exact h2, fun y hy => ?_⟩
  rw [(List.mem_replicate.1 hy).2]
  unfold smallZ zeroZ
  decide
/-- a device at block D, its zones in a row of its own, drawn by a cursor at B; of what was there at w0 only the cursor has turned; the first new block is the result's -/
structure Dv (B D N : Nat) (sv : Value) (w0 : World) (zs : List Zn) (w : World) : Prop where
  cur : Cur B N sv w
  but : But B w0 w
  old : B < w0.heap.size
  new : w0.heap.size < D
  lt : D < w.heap.size
  res : w.heap[w0.heap.size]? = some (.cells #[.slice none 0 0] 25)
  cell : ∃ R c, w0.heap.size < R ∧ R ≠ D ∧ w.cell? ⟨D, 0, none⟩ = some (.slice (some ⟨R, 0, none⟩) zs.length c) ∧ ZRow R zs w
  free : w.frozen? ⟨D, 0, none⟩ = false
  small : small 60 zs
theorem Dv.below {B D N : Nat} {sv : Value} {w0 w w' : World} {zs : List Zn} (h : Dv B D N sv w0 zs w) (g : Below w.heap.size w w') : Dv B D N sv w0 zs w' := by
  obtain ⟨R, c, hR, hD, hc, hr⟩ := h.cell
  have h1 := h.new
  have h2 := h.lt
  exact ⟨h.cur.below g, h.but.trans (But.ofBelow g), h.old, h.new, Nat.lt_of_lt_of_le h.lt g.size, (g.block _ (by omega)).trans h.res, ⟨R, c, hR, hD, (g.cell (p := ⟨D, 0, none⟩) h.lt).trans hc, hr.below g⟩, (g.frozen (p := ⟨D, 0, none⟩) h.lt).trans h.free, h.small⟩
theorem Dv.step {B D N M : Nat} {sv : Value} {w0 w w' : World} {zs : List Zn} (h : Dv B D N sv w0 zs w) (hc : Cur B M sv w') (g : But B w w') : Dv B D M sv w0 zs w' := by
  obtain ⟨R, c, hR, hD, hcell, hr⟩ := h.cell
  have hB := h.old
  have hn := h.new
  have h2 := h.lt
  exact ⟨hc, h.but.trans g, h.old, h.new, Nat.lt_of_lt_of_le h.lt g.size, (g.block _ (by omega) (by omega)).trans h.res, ⟨R, c, hR, hD, (g.cell D 0 h.lt (by omega)).trans hcell, hr.same g.size (g.block R hr.lt (by omega))⟩, (g.frozen D 0 h.lt (by omega)).trans h.free, h.small⟩
theorem Dv.mono {B D N M : Nat} {sv : Value} {w0 w : World} {zs : List Zn} (h : Dv B D N sv w0 zs w) (hN : N ≤ M) : Dv B D M sv w0 zs w :=
  ⟨h.cur.mono hN, h.but, h.old, h.new, h.lt, h.res, h.cell, h.free, h.small⟩
theorem Dv.drew {B D N : Nat} {sv : Value} {w0 w : World} {zs : List Zn} (h : Dv B D N sv w0 zs w) : Dv B D N sv w0 zs w.drew := by
  obtain ⟨R, c, hR, hD, hcell, hr⟩ := h.cell
  exact ⟨h.cur.drew, h.but.drew, h.old, h.new, h.lt, h.res, ⟨R, c, hR, hD, hcell, hr.drew⟩, h.free, h.small⟩
/-- another device is laid into D -/
theorem Dv.put {B D N : Nat} {sv : Value} {w0 w w' : World} {zs V : List Zn} {b : Option Addr} {c : Nat} (h : Dv B D N sv w0 zs w) (g : Below w.heap.size w w') (ho : Own w.heap.size w'.heap.size b V w') (hV : Proofs.Yteofdaecknlkdaa.small 60 V) :
    Dv B D N sv w0 V (w'.setCell ⟨D, 0, none⟩ (.slice b V.length c)) := by
  have k := h.below g
  have hlt := h.lt
  have hb := h.but.size
  obtain ⟨R0, c0, _, _, hcell, _⟩ := k.cell
  rcases ho with rfl | ⟨R, h1, h3, rfl, hr⟩
  · exact absurd hV.1 (by simp)
  · have hn := h.new
    have ho := h.old
    have hRD : R ≠ D := by omega
    exact ⟨k.cur.setOther (by omega) 0 _, k.but.setNew (Nat.le_of_lt h.new) 0 _, h.old, h.new, by simpa [World.setCell] using k.lt, (Below.heap_setCell _ _ _ _ (by show w0.heap.size ≠ D; omega)).trans k.res,
      ⟨R, c, by omega, hRD, World.cell?_setCell_same _ _ _ hcell, hr.same (by simp [World.setCell]) (Below.heap_setCell _ _ _ _ hRD)⟩, by rw [World.frozen?_setCell]; exact k.free, hV⟩
/-- another device has been told, and lies in a new variable; it may be laid into D -/
theorem Dv.take {B D N : Nat} {sv : Value} {w0 w w' : World} {zs V : List Zn} {b : Option Addr} {c : Nat} {ok : Bool} (h : Dv B D N sv w0 zs w) (g : Below w.heap.size w w') (ho : Own w.heap.size w'.heap.size b V w') (hV : ok = true → Proofs.Yteofdaecknlkdaa.small 60 V) :
    (w'.alloc (.cells #[.slice b V.length c] 25)).cell? ⟨w'.heap.size, 0, none⟩ = some (.slice b V.length c) ∧ Dv B D N sv w0 zs (w'.alloc (.cells #[.slice b V.length c] 25)) ∧
    (ok = true → Dv B D N sv w0 V ((w'.alloc (.cells #[.slice b V.length c] 25)).setCell ⟨D, 0, none⟩ (.slice b V.length c))) := by
  have ga : Below w'.heap.size w' (w'.alloc (.cells #[.slice b V.length c] 25)) := (Below.refl _ _).alloc (Nat.le_refl _) _
  refine ⟨by rw [World.cell?_alloc_new]; rfl, (h.below g).below ga, fun e => h.put (g.trans (ga.mono g.size)) ?_ (hV e)⟩
  rcases ho with h | ⟨R, h1, h3, e, hr⟩
  · exact Or.inl h
  · exact Or.inr ⟨R, h1, by rw [heap_size]; omega, e, hr.below ga⟩
theorem Dv.takeNew {B D N : Nat} {sv : Value} {w0 w w' : World} {zs V : List Zn} {b : Option Addr} {c : Nat} {ok : Bool} (h : Dv B D N sv w0 zs w) (g : Below w.heap.size w w') (ho : Own w.heap.size w'.heap.size b V w') (hV : ok = true → Proofs.Yteofdaecknlkdaa.small 60 V) :
    Dv B D N sv w0 zs (w'.alloc (.cells #[.slice b V.length c] 25)) ∧ (ok = true → Dv B D N sv w0 V ((w'.setCell ⟨D, 0, none⟩ (.slice b V.length c)).alloc (.cells #[.slice b V.length c] 25))) :=
  ⟨(h.below g).below ((Below.refl _ _).alloc (Nat.le_refl _) _), fun e => (h.put g ho (hV e)).below ((Below.refl _ _).alloc (Nat.le_refl _) _)⟩
theorem block_cell {w : World} {X : Nat} {v : Value} {T : TypeId} (h : w.heap[X]? = some (.cells #[v] T)) : w.cell? ⟨X, 0, none⟩ = some v ∧ w.frozen? ⟨X, 0, none⟩ = false :=
  ⟨by unfold World.cell?; rw [h]; rfl, by unfold World.frozen?; rw [h]; rfl⟩
theorem block_lt {w : World} {X : Nat} {o : Obj} (h : w.heap[X]? = some o) : X < w.heap.size := by
  rcases Nat.lt_or_ge X w.heap.size with h' | h'
  · exact h'
  · rw [Array.getElem?_eq_none h'] at h; cases h
/-- a block apart from the device is turned -/
theorem Dv.apart {B D N : Nat} {sv : Value} {w0 w w' : World} {zs : List Zn} {X R c : Nat} (h : Dv B D N sv w0 zs w) (hc : w.cell? ⟨D, 0, none⟩ = some (.slice (some ⟨R, 0, none⟩) zs.length c)) (hX : w0.heap.size < X) (hD : X ≠ D) (hR : X ≠ R) (g : But X w w') : Dv B D N sv w0 zs w' := by
  obtain ⟨R', c', h1, h2, h3, hr⟩ := h.cell
  have e := h3.symm.trans hc
  simp only [Option.some.injEq, Value.slice.injEq, Addr.mk.injEq] at e
  obtain ⟨⟨rfl, -⟩, -, rfl⟩ := e
  have k1 := h.old
  have k2 := h.new
  have k3 := h.lt
  have k4 := h.but.size
  exact ⟨h.cur.but g (by omega), ⟨g.os.trans h.but.os, g.tape.trans h.but.tape, g.output.trans h.but.output, Nat.le_trans h.but.size g.size, fun k hk hB => (g.block k (by omega) (by omega)).trans (h.but.block k hk hB)⟩, h.old, h.new, Nat.lt_of_lt_of_le h.lt g.size, (g.block _ (by omega) (by omega)).trans h.res,
    ⟨_, _, h1, h2, (g.cell D 0 h.lt (by omega)).trans h3, hr.same g.size (g.block _ hr.lt (by omega))⟩, (g.frozen D 0 h.lt (by omega)).trans h.free, h.small⟩
/-- another device has been told, and lies in an elder variable; it may be laid into D -/
theorem Dv.takeOld {B D N : Nat} {sv : Value} {w0 w w' : World} {zs V : List Zn} {b : Option Addr} {X R c c' : Nat} {ok : Bool} {u : Value} (h : Dv B D N sv w0 zs w) (g : Below w.heap.size w w') (ho : Own w.heap.size w'.heap.size b V w') (hV : ok = true → Proofs.Yteofdaecknlkdaa.small 60 V)
    (hc : w.cell? ⟨D, 0, none⟩ = some (.slice (some ⟨R, 0, none⟩) zs.length c)) (hX : w0.heap.size < X) (hl : X < w.heap.size) (hD : X ≠ D) (hR : X ≠ R) (hu : w'.cell? ⟨X, 0, none⟩ = some u) :
    (w'.setCell ⟨X, 0, none⟩ (.slice b V.length c')).cell? ⟨X, 0, none⟩ = some (.slice b V.length c') ∧ Dv B D N sv w0 zs (w'.setCell ⟨X, 0, none⟩ (.slice b V.length c')) ∧
    (ok = true → Dv B D N sv w0 V ((w'.setCell ⟨X, 0, none⟩ (.slice b V.length c')).setCell ⟨D, 0, none⟩ (.slice b V.length c'))) := by
  have hlt := h.lt
  have hnew := h.new
  have gx : But X w' (w'.setCell ⟨X, 0, none⟩ (.slice b V.length c')) := (But.refl X w').setCell 0 _
  have hcw := (g.cell (p := ⟨D, 0, none⟩) hlt).trans hc
  have h1 := (h.below g).apart hcw hX hD hR gx
  refine ⟨World.cell?_setCell_same _ _ _ hu, h1, fun e => ?_⟩
  have hVs := hV e
  rcases ho with rfl | ⟨S, s1, s3, rfl, hr⟩
  · exact absurd hVs.1 (by simp)
  · have hold := h.old
    have hb := h.but.size
    have hcx : (w'.setCell ⟨X, 0, none⟩ (.slice (some ⟨S, 0, none⟩) V.length c')).cell? ⟨D, 0, none⟩ = some (.slice (some ⟨R, 0, none⟩) zs.length c) := (gx.cell D 0 (by have := g.size; omega) (by omega)).trans hcw
    have hrx := hr.same (by simp [World.setCell]) (gx.block S hr.lt (by omega))
    exact ⟨h1.cur.setOther (by omega) 0 _, h1.but.setNew (Nat.le_of_lt h.new) 0 _, h.old, h.new, by simpa [World.setCell] using h1.lt, (Below.heap_setCell _ _ _ _ (by show w0.heap.size ≠ D; omega)).trans h1.res,
      ⟨S, c', by omega, by omega, World.cell?_setCell_same _ _ _ hcx, hrx.same (by simp [World.setCell]) (Below.heap_setCell _ _ _ _ (by show S ≠ D; omega))⟩, by rw [World.frozen?_setCell]; exact h1.free, hVs⟩
/-- the device is told, a zone of it turned or none -/
theorem Dv.done {B D N : Nat} {sv : Value} {w0 w w' : World} {zs V : List Zn} {R : Nat} (h : Dv B D N sv w0 zs w) (hR : w0.heap.size < R) (g : But R w w') (hr : ZRow R V w') (v : Value) :
    ZRow R V (w'.setCell ⟨w0.heap.size, 0, none⟩ v) ∧ Cur B N sv (w'.setCell ⟨w0.heap.size, 0, none⟩ v) ∧ But B w0 (w'.setCell ⟨w0.heap.size, 0, none⟩ v) := by
  have h1 := h.old
  have h2 := h.but.size
  have k : But B w0 w' := ⟨g.os.trans h.but.os, g.tape.trans h.but.tape, g.output.trans h.but.output, Nat.le_trans h.but.size g.size, fun k hk hB => (g.block k (by omega) (by omega)).trans (h.but.block k hk hB)⟩
  exact ⟨hr.same (by simp [World.setCell]) (Below.heap_setCell _ _ _ _ (by show R ≠ w0.heap.size; omega)), (h.cur.but g (by omega)).setOther (by omega) 0 v, k.setNew (Nat.le_refl _) 0 v⟩
end Go.Proofs.Yteofdaecknlkdaa
