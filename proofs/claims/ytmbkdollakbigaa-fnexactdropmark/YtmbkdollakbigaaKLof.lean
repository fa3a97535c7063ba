/- The program's layerOf: a layer out of a map. -/
import Derived.Test.YtmbkdollakbigaaKOrd
namespace Go.Proofs.Ytmbkdollakbigaa
set_option maxRecDepth 100000
open Go Go.ChangeShapes Go.WideShapes Go.ChangeAt Go.RowKit Go.Shelf Go.Maps Go.Sort
attribute [local go_sem] Oper.semAt_some
theorem irow_oneK (w : World) (n : Int) : Is (w.alloc (.cells #[.int .i64 n] 3)).heap.size (some ⟨w.heap.size, 0, none⟩) [n] (w.alloc (.cells #[.int .i64 n] 3)) := by
  refine ⟨fun _ => ⟨w.heap.size, 0, rfl, by simp, fun i hi r hr => ?_⟩⟩
  have hi0 : i = 0 := by simp at hi; omega
  have hr0 : r = 0 := by omega
  subst hi0 hr0
  have hc := box_cell (heap_last w (.cells #[.int .i64 n] 3)) 0
  exact hc
theorem row_box {W : World} {Z k : Nat} {m a b : Value} {t : TypeId} (h : W.heap[Z]? = some (.cells #[m, a, b] t (0, 0))) (hm : m.ownBlock = none) (hr : rowIn W Z k) : a.ownBlock = some k ∨ b.ownBlock = some k := by
  obtain ⟨j, v, e, ev⟩ := hr
  have e2 : W.cell? ⟨Z, j, none⟩ = #[m, a, b][j]? := by simp [World.cell?, h]
  rw [e2] at e
  match j, e with
  | 0, e => have e3 : m = v := by simpa using e
            rw [← e3, hm] at ev; cases ev
  | 1, e => have e3 : a = v := by simpa using e
            exact Or.inl (by rw [e3]; exact ev)
  | 2, e => have e3 : b = v := by simpa using e
            exact Or.inr (by rw [e3]; exact ev)
  | j + 3, e => simp at e
theorem box_row {W : World} {Z k : Nat} {m a b : Value} {t : TypeId} (h : W.heap[Z]? = some (.cells #[m, a, b] t (0, 0))) (hr : a.ownBlock = some k ∨ b.ownBlock = some k) : rowIn W Z k := by
  rcases hr with hr | hr
  · exact ⟨1, a, by simp [World.cell?, h], hr⟩
  · exact ⟨2, b, by simp [World.cell?, h], hr⟩
theorem kpz_box {n₀ Z : Nat} {W W' : World} {m a b a' b' : Value} {t : TypeId} (h : W.heap[Z]? = some (.cells #[m, a, b] t (0, 0))) (h' : W'.heap[Z]? = some (.cells #[m, a', b'] t (0, 0))) (hm : m.ownBlock = none) (hbel : Below n₀ W W')
    (hc : ∀ k o, W.heap[k]? = some o → k ≠ Z → a.ownBlock ≠ some k → b.ownBlock ≠ some k → W'.heap[k]? = some o)
    (ha : ∀ k, a'.ownBlock = some k → a.ownBlock = some k ∨ W.heap.size ≤ k) (hb : ∀ k, b'.ownBlock = some k → b.ownBlock = some k ∨ W.heap.size ≤ k) : KpZ n₀ Z W W' := by
  refine ⟨hbel, fun k o hk _ hz hr => hc k o hk hz (fun e => hr (box_row h (Or.inl e))) (fun e => hr (box_row h (Or.inr e))), fun k hr => ?_⟩
  rcases row_box h' hm hr with h1 | h1
  · rcases ha k h1 with h2 | h2
    · exact Or.inl (box_row h (Or.inl h2))
    · exact Or.inr h2
  · rcases hb k h1 with h2 | h2
    · exact Or.inl (box_row h (Or.inr h2))
    · exact Or.inr h2
/-- what stands in a round of layerOf -/
structure Lz (w : World) (mark : Int) (bl : List Int) (dt : List ByteArray) (vb vd : Value) (W : World) : Prop where
  z : W.heap[w.heap.size + 1]? = some (.cells #[.int .i64 mark, vb, vd] 64 (0, 0))
  a : W.ownsRow (w.heap.size + 3) 3 1 vb bl.length (ivals bl)
  b : W.ownsRow (w.heap.size + 3) 9 1 vd dt.length (svals dt)
  ab : ∀ g, vb.ownBlock = some g → vd.ownBlock ≠ some g
  r : W.heap[w.heap.size]? = some (.cells #[.int .i64 0, .slice none 0 0, .slice none 0 0] 64 (0, 0))
  bel : Below w.heap.size w W
  sz : w.heap.size + 3 ≤ W.heap.size
theorem Lz.grown {w : World} {mark : Int} {bl : List Int} {dt : List ByteArray} {vb vd : Value} {X Y : World} {row : Option Nat} (h : Lz w mark bl dt vb vd X) (hg : X.grownBy Y row) (hr : ∀ r, row = some r → w.heap.size ≤ r ∧ ∃ o, X.heap[r]? = some o ∧ o.isCells = false) : Lz w mark bl dt vb vd Y := by
  have hne : ∀ {B : Nat} {o : Obj}, X.heap[B]? = some o → o.isCells = true → Y.heap[B]? = X.heap[B]? := fun hb hc => hg.block _ (Array.getElem?_eq_some_iff.1 hb).1 (fun e => by obtain ⟨_, o', g1, g2⟩ := hr _ e.symm; rw [hb] at g1; cases g1; rw [hc] at g2; cases g2)
  refine ⟨(hne h.z rfl).trans h.z, rw_keep h.a (fun k hk => ?_), rw_keep h.b (fun k hk => ?_), h.ab, (hne h.r rfl).trans h.r, h.bel.grown hg h.bel.size (fun k e => (hr k e).1), Nat.le_trans h.sz hg.size⟩
  · obtain ⟨o, ho, hc⟩ := own_cells h.a hk
    exact hne ho hc
  · obtain ⟨o, ho, hc⟩ := own_cells h.b hk
    exact hne ho hc
/-- one number behind the blocks -/
theorem Lz.block {w : World} {mark : Int} {bl : List Int} {dt : List ByteArray} {vb vd : Value} {W : World} (h : Lz w mark bl dt vb vd W) (x : Int) (hn : bl.length + 1 ≤ 9000) :
    ∃ v' W1, (∀ ty, (Builtin.append_ #[26, 26] ty #[vb, .slice (some ⟨W.heap.size, 0, none⟩) 1 1]).run Try.prog (W.alloc (.cells #[.int .i64 x] 3)) = .ok v' W1) ∧
      W1.cell? ⟨w.heap.size + 1, 1, none⟩ = some vb ∧ W1.frozen? ⟨w.heap.size + 1, 1, none⟩ = false ∧
      KpZ w.heap.size (w.heap.size + 1) W (W1.setCell ⟨w.heap.size + 1, 1, none⟩ v') ∧ KeepsOthers W (W1.setCell ⟨w.heap.size + 1, 1, none⟩ v') ∧
      Lz w mark (bl ++ [x]) dt v' vd (W1.setCell ⟨w.heap.size + 1, 1, none⟩ v') := by
  have hsz := h.sz
  have hal := h.a.alloc (.cells #[.int .i64 x] 3)
  have hz1 : (W.alloc (.cells #[.int .i64 x] 3)).heap.size = W.heap.size + 1 := heap_size _ _
  obtain ⟨v', W1, r1, o1, g1, k1⟩ := app_int (W.alloc (.cells #[.int .i64 x] 3)) (w.heap.size + 3) vb bl.length (ivals bl) hal (some ⟨W.heap.size, 0, none⟩) 1 [x] ((irow_oneK W x)) (by show bl.length + 1 ≤ 10000; omega) (by omega)
  have hlt : ∀ g, vb.ownBlock = some g → w.heap.size + 3 ≤ g ∧ g < W.heap.size := fun g hg => h.a.lt g hg
  have hltd : ∀ g, vd.ownBlock = some g → w.heap.size + 3 ≤ g ∧ g < W.heap.size := fun g hg => h.b.lt g hg
  have hs1 := g1.size
  have hkeep : ∀ k o, W.heap[k]? = some o → vb.ownBlock ≠ some k → W1.heap[k]? = some o := fun k o hk hne => by
    have hkl : k < W.heap.size := (Array.getElem?_eq_some_iff.1 hk).1
    exact (g1.block k (by omega) (fun e => hne e.symm)).trans ((Below.heap_alloc _ _ _ hkl).trans hk)
  have hZ1 : W1.heap[w.heap.size + 1]? = some (.cells #[.int .i64 mark, vb, vd] 64 (0, 0)) := hkeep _ _ h.z (fun e => by have := (hlt _ e).1; omega)
  have hb1 : Below w.heap.size w W1 := (h.bel.alloc h.bel.size _).trans (below_of_grown g1 (by omega) (fun k hk => by have := (hlt k hk).1; omega))
  have hbW : Below w.heap.size W W1 := ((Below.refl _ W).alloc (by omega) _).trans (below_of_grown g1 (by omega) (fun k hk => by have := (hlt k hk).1; omega))
  have hset := box_set hZ1 1 v'
  have hset' : (W1.setCell ⟨w.heap.size + 1, 1, none⟩ v').heap[w.heap.size + 1]? = some (.cells #[.int .i64 mark, v', vd] 64 (0, 0)) := by simpa using hset
  have hv' : ∀ k, v'.ownBlock = some k → vb.ownBlock = some k ∨ W.heap.size ≤ k := fun k hk => by
    rcases k1 with e | e
    · exact Or.inl (e.symm.trans hk)
    · rw [e] at hk; injection hk with hk; exact Or.inr (by omega)
  refine ⟨v', W1, r1, box_cell hZ1 1, box_free hZ1 1, kpz_box h.z hset' rfl (setB hbW _ _ (by omega) _) (fun k o hk hz hna _ => (keepB _ _ _ _ _ hz).trans (hkeep k o hk hna)) hv' (fun k hk => Or.inl hk), ?_, ⟨hset', ?_, ?_, ?_, ?_, setB hb1 _ _ (by omega) _, ?_⟩⟩
  · refine ⟨Nat.le_trans (Nat.le_trans (by omega) hs1) (Nat.le_of_eq (by simp [World.setCell])), fun k o hk hc => ?_⟩
    have hne : vb.ownBlock ≠ some k := fun e => by
      obtain ⟨o2, ho2, hc2⟩ := own_cells h.a e
      rw [hk] at ho2; cases ho2; rw [hc] at hc2; cases hc2
    exact (keepB _ _ _ _ _ (fun e => by subst e; rw [h.z] at hk; cases hk; cases hc)).trans (hkeep k o hk hne)
  · have o2 : W1.ownsRow (w.heap.size + 3) 3 1 v' (bl.length + 1) (ivals (bl ++ [x])) := by simpa [ivals] using o1
    rw [List.length_append, List.length_singleton]
    exact rw_keep o2 (fun k hk => keepB _ _ _ _ _ (by have := (o2.lt k hk).1; omega))
  · refine rw_keep h.b (fun k hk => ?_)
    obtain ⟨o, ho, _⟩ := own_cells h.b hk
    exact (keepB _ _ _ _ _ (by have := (hltd k hk).1; omega)).trans ((hkeep k o ho (fun e => h.ab k e hk)).trans ho.symm)
  · intro g hg hd
    rcases hv' g hg with e | e
    · exact h.ab g e hd
    · have := (hltd g hd).2; omega
  · exact (keepB _ _ _ _ _ (by omega)).trans (hkeep _ _ h.r (fun e => by have := (hlt _ e).1; omega))
  · have : (W1.setCell ⟨w.heap.size + 1, 1, none⟩ v').heap.size = W1.heap.size := by simp [World.setCell]
    omega
/-- one text behind the data -/
theorem Lz.data {w : World} {mark : Int} {bl : List Int} {dt : List ByteArray} {vb vd : Value} {W : World} (h : Lz w mark bl dt vb vd W) (x : ByteArray) (hn : dt.length + 1 ≤ 9000) :
    ∃ v' W1, (∀ ty, (Builtin.append_ #[62, 62] ty #[vd, .slice (some ⟨W.heap.size, 0, none⟩) 1 1]).run Try.prog (W.alloc (.cells #[.string x] 9)) = .ok v' W1) ∧
      W1.cell? ⟨w.heap.size + 1, 2, none⟩ = some vd ∧ W1.frozen? ⟨w.heap.size + 1, 2, none⟩ = false ∧
      KpZ w.heap.size (w.heap.size + 1) W (W1.setCell ⟨w.heap.size + 1, 2, none⟩ v') ∧ KeepsOthers W (W1.setCell ⟨w.heap.size + 1, 2, none⟩ v') ∧
      Lz w mark bl (dt ++ [x]) vb v' (W1.setCell ⟨w.heap.size + 1, 2, none⟩ v') := by
  have hsz := h.sz
  have hal := h.b.alloc (.cells #[.string x] 9)
  have hz1 : (W.alloc (.cells #[.string x] 9)).heap.size = W.heap.size + 1 := heap_size _ _
  obtain ⟨v', W1, r1, o1, g1, k1⟩ := app_str (W.alloc (.cells #[.string x] 9)) (w.heap.size + 3) vd dt.length (svals dt) hal (some ⟨W.heap.size, 0, none⟩) 1 [x] ((srow_one W x)) (by show dt.length + 1 ≤ 10000; omega) (by omega)
  have hlt : ∀ g, vd.ownBlock = some g → w.heap.size + 3 ≤ g ∧ g < W.heap.size := fun g hg => h.b.lt g hg
  have hltd : ∀ g, vb.ownBlock = some g → w.heap.size + 3 ≤ g ∧ g < W.heap.size := fun g hg => h.a.lt g hg
  have hs1 := g1.size
  have hkeep : ∀ k o, W.heap[k]? = some o → vd.ownBlock ≠ some k → W1.heap[k]? = some o := fun k o hk hne => by
    have hkl : k < W.heap.size := (Array.getElem?_eq_some_iff.1 hk).1
    exact (g1.block k (by omega) (fun e => hne e.symm)).trans ((Below.heap_alloc _ _ _ hkl).trans hk)
  have hZ1 : W1.heap[w.heap.size + 1]? = some (.cells #[.int .i64 mark, vb, vd] 64 (0, 0)) := hkeep _ _ h.z (fun e => by have := (hlt _ e).1; omega)
  have hb1 : Below w.heap.size w W1 := (h.bel.alloc h.bel.size _).trans (below_of_grown g1 (by omega) (fun k hk => by have := (hlt k hk).1; omega))
  have hbW : Below w.heap.size W W1 := ((Below.refl _ W).alloc (by omega) _).trans (below_of_grown g1 (by omega) (fun k hk => by have := (hlt k hk).1; omega))
  have hset := box_set hZ1 2 v'
  have hset' : (W1.setCell ⟨w.heap.size + 1, 2, none⟩ v').heap[w.heap.size + 1]? = some (.cells #[.int .i64 mark, vb, v'] 64 (0, 0)) := by simpa using hset
  have hv' : ∀ k, v'.ownBlock = some k → vd.ownBlock = some k ∨ W.heap.size ≤ k := fun k hk => by
    rcases k1 with e | e
    · exact Or.inl (e.symm.trans hk)
    · rw [e] at hk; injection hk with hk; exact Or.inr (by omega)
  refine ⟨v', W1, r1, box_cell hZ1 2, box_free hZ1 2, kpz_box h.z hset' rfl (setB hbW _ _ (by omega) _) (fun k o hk hz _ hnb => (keepB _ _ _ _ _ hz).trans (hkeep k o hk hnb)) (fun k hk => Or.inl hk) hv', ?_, ⟨hset', ?_, ?_, ?_, ?_, setB hb1 _ _ (by omega) _, ?_⟩⟩
  · refine ⟨Nat.le_trans (Nat.le_trans (by omega) hs1) (Nat.le_of_eq (by simp [World.setCell])), fun k o hk hc => ?_⟩
    have hne : vd.ownBlock ≠ some k := fun e => by
      obtain ⟨o2, ho2, hc2⟩ := own_cells h.b e
      rw [hk] at ho2; cases ho2; rw [hc] at hc2; cases hc2
    exact (keepB _ _ _ _ _ (fun e => by subst e; rw [h.z] at hk; cases hk; cases hc)).trans (hkeep k o hk hne)
  · refine rw_keep h.a (fun k hk => ?_)
    obtain ⟨o, ho, _⟩ := own_cells h.a hk
    exact (keepB _ _ _ _ _ (by have := (hltd k hk).1; omega)).trans ((hkeep k o ho (fun e => h.ab k hk e)).trans ho.symm)
  · have o2 : W1.ownsRow (w.heap.size + 3) 9 1 v' (dt.length + 1) (svals (dt ++ [x])) := by simpa [svals] using o1
    rw [List.length_append, List.length_singleton]
    exact rw_keep o2 (fun k hk => keepB _ _ _ _ _ (by have := (o2.lt k hk).1; omega))
  · intro g hg hd
    rcases hv' g hd with e | e
    · exact h.ab g hg e
    · have := (hltd g hg).2; omega
  · exact (keepB _ _ _ _ _ (by omega)).trans (hkeep _ _ h.r (fun e => by have := (hlt _ e).1; omega))
  · have : (W1.setCell ⟨w.heap.size + 1, 2, none⟩ v').heap.size = W1.heap.size := by simp [World.setCell]
    omega
end Go.Proofs.Ytmbkdollakbigaa
