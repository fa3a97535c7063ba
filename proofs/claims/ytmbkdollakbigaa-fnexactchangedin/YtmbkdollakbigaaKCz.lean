/- ChangedIn's loop: the keys of a map of blocks; the box of a list that grows. -/
import Derived.Test.YtmbkdollakbigaaKOrw
import Derived.Test.YtmbkdollakbigaaKLow
import Derived.Test.YtmbkdollakbigaaKOvV
namespace Go.Proofs.Ytmbkdollakbigaa
set_option maxRecDepth 100000
open Go Go.ChangeShapes Go.WideShapes Go.ChangeAt Go.RowKit Go.Shelf Go.Maps Go.Sort
open Classical in
/-- a map of blocks of 0 to 15: its keys, rising -/
theorem keys16 {D : DataW Unit} {T : Int → ByteArray} {K : Int → Prop} {w : World} {M N : Nat} (h : TellsK D T K) (ho : w.ownsMap Try.prog 3 keptE M N D) (hK : ∀ x, K x → 0 ≤ x ∧ x < 16) :
    ∃ L : List Int, L.Pairwise (· < ·) ∧ (∀ x, x ∈ L ↔ K x) ∧ sortN (intKeys D) = L ∧ Maps.size D = L.length ∧ L.length ≤ 16 := by
  have h0 : ((List.range 16).map (fun i : Nat => (i : Int))).Pairwise (· < ·) := by decide
  have hs := h0.filter (fun x => decide (K x))
  have hm : ∀ x, x ∈ ((List.range 16).map (fun i : Nat => (i : Int))).filter (fun x => decide (K x)) ↔ K x := fun x => by
    rw [List.mem_filter, List.mem_map]
    constructor
    · rintro ⟨-, h⟩; exact of_decide_eq_true h
    · intro h
      have := hK x h
      exact ⟨⟨x.toNat, List.mem_range.2 (by omega), by omega⟩, decide_eq_true h⟩
  have hl : (((List.range 16).map (fun i : Nat => (i : Int))).filter (fun x => decide (K x))).length ≤ 16 := Nat.le_trans (List.length_filter_le _ _) (by simp)
  obtain ⟨k1, k2⟩ := keysK h ho _ hs hm
  exact ⟨_, hs, hm, k1, k2, hl⟩
theorem row_box1 {W : World} {Z k : Nat} {a : Value} {t : TypeId} (h : W.heap[Z]? = some (.cells #[a] t (0, 0))) (hr : rowIn W Z k) : a.ownBlock = some k := by
  obtain ⟨j, v, e, ev⟩ := hr
  have e2 : W.cell? ⟨Z, j, none⟩ = #[a][j]? := by simp [World.cell?, h]
  rw [e2] at e
  match j, e with
  | 0, e => have e3 : a = v := by simpa using e
            rw [e3]; exact ev
  | j + 1, e => simp at e
theorem box_row1 {W : World} {Z k : Nat} {a : Value} {t : TypeId} (h : W.heap[Z]? = some (.cells #[a] t (0, 0))) (hr : a.ownBlock = some k) : rowIn W Z k := ⟨0, a, by simp [World.cell?, h], hr⟩
theorem kpz_box1 {n₀ Z : Nat} {W W' : World} {a a' : Value} {t : TypeId} (h : W.heap[Z]? = some (.cells #[a] t (0, 0))) (h' : W'.heap[Z]? = some (.cells #[a'] t (0, 0))) (hbel : Below n₀ W W')
    (hc : ∀ k o, W.heap[k]? = some o → k ≠ Z → a.ownBlock ≠ some k → W'.heap[k]? = some o)
    (ha : ∀ k, a'.ownBlock = some k → a.ownBlock = some k ∨ W.heap.size ≤ k) : KpZ n₀ Z W W' := by
  refine ⟨hbel, fun k o hk _ hz hr => hc k o hk hz (fun e => hr (box_row1 h e)), fun k hr => ?_⟩
  rcases ha k (row_box1 h' hr) with h2 | h2
  · exact Or.inl (box_row1 h h2)
  · exact Or.inr h2
/-- what stands in a round of ChangedIn -/
structure Cz (w : World) (l : List Int) (v : Value) (W : World) : Prop where
  z : W.heap[w.heap.size]? = some (.cells #[v] 26 (0, 0))
  a : W.ownsRow (w.heap.size + 2) 3 1 v l.length (ivals l)
  bel : Below w.heap.size w W
  sz : w.heap.size + 2 ≤ W.heap.size
theorem Cz.grown {w : World} {l : List Int} {v : Value} {X Y : World} {row : Option Nat} (h : Cz w l v X) (hg : X.grownBy Y row) (hr : ∀ r, row = some r → w.heap.size ≤ r ∧ ∃ o, X.heap[r]? = some o ∧ o.isCells = false) : Cz w l v Y := by
  have hne : ∀ {B : Nat} {o : Obj}, X.heap[B]? = some o → o.isCells = true → Y.heap[B]? = X.heap[B]? := fun hb hc => hg.block _ (Array.getElem?_eq_some_iff.1 hb).1 (fun e => by obtain ⟨_, o', g1, g2⟩ := hr _ e.symm; rw [hb] at g1; cases g1; rw [hc] at g2; cases g2)
  refine ⟨(hne h.z rfl).trans h.z, rw_keep h.a (fun k hk => ?_), h.bel.grown hg h.bel.size (fun k e => (hr k e).1), Nat.le_trans h.sz hg.size⟩
  obtain ⟨o, ho, hc⟩ := own_cells h.a hk
  exact hne ho hc
theorem Cz.on {w : World} {l : List Int} {v : Value} {X Y : World} (h : Cz w l v X) (g : Below X.heap.size X Y) : Cz w l v Y :=
  h.grown (row := none) ⟨g.os, g.tape, g.output, g.size, fun k hk _ => g.block k hk⟩ (fun r e => by cases e)
/-- one number behind the list -/
theorem Cz.push {w : World} {l : List Int} {v : Value} {W : World} (h : Cz w l v W) (x : Int) (hn : l.length + 1 ≤ 9000) :
    ∃ v' W1, (∀ ty, (Builtin.append_ #[26, 26] ty #[v, .slice (some ⟨W.heap.size, 0, none⟩) 1 1]).run Try.prog (W.alloc (.cells #[.int .i64 x] 3)) = .ok v' W1) ∧
      W1.cell? ⟨w.heap.size, 0, none⟩ = some v ∧ W1.frozen? ⟨w.heap.size, 0, none⟩ = false ∧
      KpZ w.heap.size w.heap.size W (W1.setCell ⟨w.heap.size, 0, none⟩ v') ∧ KeepsOthers W (W1.setCell ⟨w.heap.size, 0, none⟩ v') ∧
      Cz w (l ++ [x]) v' (W1.setCell ⟨w.heap.size, 0, none⟩ v') := by
  have hsz := h.sz
  have hal := h.a.alloc (.cells #[.int .i64 x] 3)
  have hz1 : (W.alloc (.cells #[.int .i64 x] 3)).heap.size = W.heap.size + 1 := heap_size _ _
  obtain ⟨v', W1, r1, o1, g1, k1⟩ := app_int (W.alloc (.cells #[.int .i64 x] 3)) (w.heap.size + 2) v l.length (ivals l) hal (some ⟨W.heap.size, 0, none⟩) 1 [x] ((irow_oneK W x)) (by show l.length + 1 ≤ 10000; omega) (by omega)
  have hlt : ∀ g, v.ownBlock = some g → w.heap.size + 2 ≤ g ∧ g < W.heap.size := fun g hg => h.a.lt g hg
  have hs1 := g1.size
  have hkeep : ∀ k o, W.heap[k]? = some o → v.ownBlock ≠ some k → W1.heap[k]? = some o := fun k o hk hne => by
    have hkl : k < W.heap.size := (Array.getElem?_eq_some_iff.1 hk).1
    exact (g1.block k (by omega) (fun e => hne e.symm)).trans ((Below.heap_alloc _ _ _ hkl).trans hk)
  have hZ1 : W1.heap[w.heap.size]? = some (.cells #[v] 26 (0, 0)) := hkeep _ _ h.z (fun e => by have := (hlt _ e).1; omega)
  have hb1 : Below w.heap.size w W1 := (h.bel.alloc h.bel.size _).trans (below_of_grown g1 (by omega) (fun k hk => by have := (hlt k hk).1; omega))
  have hbW : Below w.heap.size W W1 := ((Below.refl _ W).alloc (by omega) _).trans (below_of_grown g1 (by omega) (fun k hk => by have := (hlt k hk).1; omega))
  have hset := box_set hZ1 0 v'
  have hset' : (W1.setCell ⟨w.heap.size, 0, none⟩ v').heap[w.heap.size]? = some (.cells #[v'] 26 (0, 0)) := by simpa using hset
  have hv' : ∀ k, v'.ownBlock = some k → v.ownBlock = some k ∨ W.heap.size ≤ k := fun k hk => by
    rcases k1 with e | e
    · exact Or.inl (e.symm.trans hk)
    · rw [e] at hk; injection hk with hk; exact Or.inr (by omega)
  refine ⟨v', W1, r1, box_cell hZ1 0, box_free hZ1 0, kpz_box1 h.z hset' (setB hbW _ _ (by omega) _) (fun k o hk hz hna => (keepB _ _ _ _ _ hz).trans (hkeep k o hk hna)) hv', ?_, ⟨hset', ?_, setB hb1 _ _ (by omega) _, ?_⟩⟩
  · refine ⟨Nat.le_trans (Nat.le_trans (by omega) hs1) (Nat.le_of_eq (by simp [World.setCell])), fun k o hk hc => ?_⟩
    have hne : v.ownBlock ≠ some k := fun e => by
      obtain ⟨o2, ho2, hc2⟩ := own_cells h.a e
      rw [hk] at ho2; cases ho2; rw [hc] at hc2; cases hc2
    exact (keepB _ _ _ _ _ (fun e => by subst e; rw [h.z] at hk; cases hk; cases hc)).trans (hkeep k o hk hne)
  · have o2 : W1.ownsRow (w.heap.size + 2) 3 1 v' (l.length + 1) (ivals (l ++ [x])) := by simpa [ivals] using o1
    rw [List.length_append, List.length_singleton]
    exact rw_keep o2 (fun k hk => keepB _ _ _ _ _ (by have := (o2.lt k hk).1; omega))
  · have : (W1.setCell ⟨w.heap.size, 0, none⟩ v').heap.size = W1.heap.size := by simp [World.setCell]
    omega
/-- of blocks met those that are unlike -/
def pkK {D : DataW Unit} (T U : Int → ByteArray) (pre : List (KeyOf D)) : List Int := (pre.map (·.1)).filter (fun x => decide (¬ T x = U x))
theorem pkK_yes {D : DataW Unit} {T U : Int → ByteArray} (pre : List (KeyOf D)) (x : KeyOf D) (h : T x.1 = U x.1) : pkK T U (pre ++ [x]) = pkK T U pre := by
  unfold pkK
  rw [List.map_append, List.filter_append]
  simp [h]
theorem pkK_no {D : DataW Unit} {T U : Int → ByteArray} (pre : List (KeyOf D)) (x : KeyOf D) (h : ¬ T x.1 = U x.1) : pkK T U (pre ++ [x]) = pkK T U pre ++ [x.1] := by
  unfold pkK
  rw [List.map_append, List.filter_append]
  simp [h]
theorem pkK_len {D : DataW Unit} (T U : Int → ByteArray) (pre : List (KeyOf D)) : (pkK T U pre).length ≤ pre.length := by
  have := List.length_filter_le (fun x => decide (¬ T x = U x)) (pre.map (·.1))
  rw [List.length_map] at this
  exact this
/-- what stands in the region that holds two data, by what is done -/
structure R9 (m1 m2 : Nat) (x : Int) (s t : ByteArray) (B : World) (d : Nat → Bool) (u45 u46 u47 u48 u49 u50 u51 : Value) (v : World) : Prop where
  b : Below B.heap.size B v
  v0 : d 0 = true → u45 = .map (some m1)
  v1 : d 1 = true → u46 = .int .i64 x
  v2 : d 2 = true → u47 = .string s
  v3 : d 3 = true → u48 = .map (some m2)
  v4 : d 4 = true → u49 = .int .i64 x
  v5 : d 5 = true → u50 = .string t
  v6 : d 6 = true → u51 = .bool (!(s.toList == t.toList))
theorem R9.grow {m1 m2 : Nat} {x : Int} {s t : ByteArray} {B : World} {d : Nat → Bool} {u45 u46 u47 u48 u49 u50 u51 : Value} {v v' : World} (h : R9 m1 m2 x s t B d u45 u46 u47 u48 u49 u50 u51 v) (g : Below v.heap.size v v') : R9 m1 m2 x s t B d u45 u46 u47 u48 u49 u50 u51 v' :=
  { h with b := h.b.trans (g.mono h.b.size) }
end Go.Proofs.Ytmbkdollakbigaa
