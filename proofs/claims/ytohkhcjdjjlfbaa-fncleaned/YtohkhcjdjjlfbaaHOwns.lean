/- Families of rows of one's own, each in a block apart. Heaps of one's own: the rows of a heap as a family. Heaps of one's own that grow. Steps of a copy of a heap. Heaps of one's own that are written into. Regions that draw their order and store at last into a cell that they load: a condition that holds behind every operation but that last one. What a write keeps while it goes. -/
import Derived.Test.YtohkhcjdjjlfbaaHA
import Derived.Test.YtohkhcjdjjlfbaaHPick
import Derived.Maps.AppendAt
import Derived.Deep.RegionHeldLaw
import Derived.Deep.RegionHeld
namespace Go.Proofs.Ytohkhcjdjjlfbaa
set_option maxRecDepth 100000
open Go Go.ChangeShapes Go.WideShapes Go.ChangeAt Go.RowKit G00541
section
variable {w : World} {base : Nat} {e : TypeId} {size : Nat} {v : Value} {n : Nat} {xs : List Value}
theorem rw_cell (h : w.ownsRow base e size v n xs) {g : Nat} (hg : v.ownBlock = some g) (j : Nat) (hj : j < xs.length) : w.cell? ⟨g, j, none⟩ = some xs[j] := by
  have := h.cells hg j xs[j] (List.getElem?_eq_getElem hj)
  have hadd : (⟨g, 0, none⟩ : Addr).add j = ⟨g, j, none⟩ := by unfold Addr.add; split <;> simp_all
  rw [hadd] at this
  exact this
theorem rw_free (h : w.ownsRow base e size v n xs) {g : Nat} (hg : v.ownBlock = some g) (j : Nat) : w.frozen? ⟨g, j, none⟩ = false := by
  rcases h.2 with ⟨rfl, _⟩ | ⟨g', cap, cur, rfl, _, hgg, _⟩
  · simp [Value.ownBlock] at hg
  · simp [Value.ownBlock] at hg
    subst hg
    unfold World.frozen?
    simp [hgg]
theorem rw_set (h : w.ownsRow base e size v n xs) {g : Nat} (hg : v.ownBlock = some g) (j : Nat) (u : Value) : (w.setCell ⟨g, j, none⟩ u).ownsRow base e size v n (xs.set j u) := by
  refine ⟨by rw [List.length_set]; exact h.1, ?_⟩
  rcases h.2 with ⟨rfl, _⟩ | ⟨g', cap, cur, rfl, hb, hgg, hc, hm, hs, ht⟩
  · simp [Value.ownBlock] at hg
  · simp [Value.ownBlock] at hg
    subst hg
    refine .inr ⟨g', cap, cur.setIfInBounds j u, rfl, hb, ?_, hc, hm, by simpa using hs, ?_⟩
    · unfold World.setCell
      simp only
      rw [Array.getElem?_modify, if_pos rfl, hgg]
      rfl
    · rw [Array.toList_setIfInBounds, List.take_set, ht]
theorem rw_other (h : w.ownsRow base e size v n xs) (X j : Nat) (u : Value) (hX : v.ownBlock ≠ some X) : (w.setCell ⟨X, j, none⟩ u).ownsRow base e size v n xs := by
  refine ⟨h.1, ?_⟩
  rcases h.2 with hn | ⟨g', cap, cur, rfl, hb, hgg, rest⟩
  · exact .inl hn
  · refine .inr ⟨g', cap, cur, rfl, hb, ?_, rest⟩
    rw [keepB _ _ _ _ _ (fun h => hX (by rw [h]; rfl))]
    exact hgg
theorem rw_form (h : w.ownsRow base e size v n xs) : ∃ a c, v = .slice a n c := by
  rcases h.2 with ⟨rfl, rfl⟩ | ⟨g', cap, cur, rfl, _⟩
  · exact ⟨_, _, rfl⟩
  · exact ⟨_, _, rfl⟩
theorem rw_block (h : w.ownsRow base e size v n xs) (h0 : 0 < n) : ∃ g c, v = .slice (some ⟨g, 0, none⟩) n c ∧ base ≤ g ∧ g < w.heap.size := by
  have hl := h.lt
  rcases h.2 with ⟨rfl, h1⟩ | ⟨g', cap, cur, rfl, _⟩
  · omega
  · exact ⟨g', cap, rfl, (hl g' rfl).1, (hl g' rfl).2⟩
theorem rw_low (h : w.ownsRow base e size v n xs) {b : Nat} (hb : b ≤ base) : w.ownsRow b e size v n xs := by
  refine ⟨h.1, ?_⟩
  rcases h.2 with hn | ⟨g', cap, cur, rfl, h1, rest⟩
  · exact .inl hn
  · exact .inr ⟨g', cap, cur, rfl, by omega, rest⟩
end
structure Rw where
  e : TypeId
  sz : Nat
  v : Value
  n : Nat
  xs : List Value
inductive Ix where
  | s | l | b (i : Nat) | v (i : Nat)
deriving DecidableEq
/-- a family of rows: each owned, each in a block apart -/
structure Fam (lo : Nat) (D : Ix → Prop) (R : Ix → Rw) (w : World) : Prop where
  own : ∀ x, D x → w.ownsRow lo (R x).e (R x).sz (R x).v (R x).n (R x).xs
  apart : ∀ x y, D x → D y → x ≠ y → ∀ g, (R x).v.ownBlock = some g → (R y).v.ownBlock ≠ some g
def upR (R : Ix → Rw) (a : Ix) (r : Rw) : Ix → Rw := fun x => if x = a then r else R x
theorem upR_same (R : Ix → Rw) (a : Ix) (r : Rw) : upR R a r a = r := if_pos rfl
theorem upR_other (R : Ix → Rw) (a : Ix) (r : Rw) (x : Ix) (h : x ≠ a) : upR R a r x = R x := if_neg h
theorem Fam.congr {lo : Nat} {D : Ix → Prop} {R R' : Ix → Rw} {w : World} (h : Fam lo D R w) (e : ∀ x, D x → R' x = R x) : Fam lo D R' w :=
  ⟨fun x hx => by rw [e x hx]; exact h.own x hx, fun x y hx hy hn => by rw [e x hx, e y hy]; exact h.apart x y hx hy hn⟩
theorem Fam.on {lo : Nat} {D : Ix → Prop} {R : Ix → Rw} {w w' : World} (h : Fam lo D R w) (g : w.grownBy w' none) : Fam lo D R w' :=
  ⟨fun x hx => (h.own x hx).kept g (by cases hv : (R x).v.ownBlock <;> simp), h.apart⟩
theorem grown_of_below {w w' : World} (g : Below w.heap.size w w') : w.grownBy w' none := ⟨g.os, g.tape, g.output, g.size, fun k hk _ => g.block k hk⟩
theorem Fam.below {lo : Nat} {D : Ix → Prop} {R : Ix → Rw} {w w' : World} (h : Fam lo D R w) (g : Below w.heap.size w w') : Fam lo D R w' := h.on (grown_of_below g)
theorem Fam.out {lo : Nat} {D : Ix → Prop} {R : Ix → Rw} {w : World} (h : Fam lo D R w) (X j : Nat) (u : Value) (hX : X < lo) : Fam lo D R (w.setCell ⟨X, j, none⟩ u) :=
  ⟨fun x hx => rw_other (h.own x hx) X j u (fun e => by have := (h.own x hx).lt X e; omega), h.apart⟩
/-- a cell of a row is set -/
theorem Fam.set {lo : Nat} {D : Ix → Prop} {R : Ix → Rw} {w : World} (h : Fam lo D R w) (a : Ix) (ha : D a) (g : Nat) (hg : (R a).v.ownBlock = some g) (j : Nat) (u : Value) :
    Fam lo D (upR R a { R a with xs := (R a).xs.set j u }) (w.setCell ⟨g, j, none⟩ u) := by
  refine ⟨fun x hx => ?_, fun x y hx hy hn k hk => ?_⟩
  · by_cases e : x = a
    · subst e; rw [upR_same]; exact rw_set (h.own x hx) hg j u
    · rw [upR_other _ _ _ _ e]; exact rw_other (h.own x hx) g j u (h.apart a x ha hx (fun e2 => e e2.symm) g hg)
  · have hv : ∀ x, (upR R a { R a with xs := (R a).xs.set j u } x).v = (R x).v := fun x => by
      by_cases e : x = a
      · subst e; rw [upR_same]
      · rw [upR_other _ _ _ _ e]
    rw [hv] at hk ⊢
    exact h.apart x y hx hy hn k hk
/-- a row is put in the place of another one, in the same block or in a new one, or is new in the family -/
theorem Fam.grow {lo : Nat} {D D' : Ix → Prop} {R : Ix → Rw} {w w' : World} (h : Fam lo D R w) (a : Ix) (hD : ∀ x, D' x → x ≠ a → D x) (r : Rw) (o : Option Nat) (ho : o = none ∨ (D a ∧ (R a).v.ownBlock = o)) (g : w.grownBy w' o)
    (hr : w'.ownsRow lo r.e r.sz r.v r.n r.xs) (hb : ∀ k, r.v.ownBlock = some k → o = some k ∨ w.heap.size ≤ k) : Fam lo D' (upR R a r) w' := by
  have hne : ∀ x, D' x → x ≠ a → ∀ k, (R x).v.ownBlock = some k → r.v.ownBlock ≠ some k := fun x hx e k hk hk2 => by
    have h1 := (h.own x (hD x hx e)).lt k hk
    rcases hb k hk2 with h2 | h2
    · rcases ho with h3 | ⟨h3, h4⟩
      · rw [h3] at h2; cases h2
      · exact h.apart x a (hD x hx e) h3 e k hk (h4.trans h2)
    · omega
  refine ⟨fun x hx => ?_, fun x y hx hy hn k hk => ?_⟩
  · by_cases e : x = a
    · subst e; rw [upR_same]; exact hr
    · rw [upR_other _ _ _ _ e]
      refine (h.own x (hD x hx e)).kept g ?_
      rcases ho with h3 | ⟨h3, h4⟩
      · subst h3; cases hv : (R x).v.ownBlock <;> simp
      · cases hv : (R x).v.ownBlock with
        | none => exact Or.inl rfl
        | some k => exact Or.inr (fun e2 => h.apart x a (hD x hx e) h3 e k hv (h4.trans e2.symm))
  · by_cases e : x = a
    · subst e
      rw [upR_same] at hk
      rw [upR_other _ _ _ _ (fun e2 => hn e2.symm)]
      exact fun h2 => hne y hy (fun e2 => hn e2.symm) k h2 hk
    · rw [upR_other _ _ _ _ e] at hk
      by_cases e2 : y = a
      · subst e2; rw [upR_same]; exact hne x hx e k hk
      · rw [upR_other _ _ _ _ e2]; exact h.apart x y (hD x hx e) (hD y hy e2) hn k hk
theorem rw_nil (w : World) (lo : Nat) (e : TypeId) (sz : Nat) : w.ownsRow lo e sz (.slice none 0 0) 0 [] := World.ownsRow_nil _ _ _ _
end Go.Proofs.Ytohkhcjdjjlfbaa
namespace Go.Proofs.Ytohkhcjdjjlfbaa
set_option maxRecDepth 100000
open Go Go.ChangeShapes Go.WideShapes Go.ChangeAt Go.RowKit G00541
def blAt (S : List Sg) (i : Nat) : List Int := (S.getD i ⟨[], 0⟩).bl
def lvAt (L : List (List Bool)) (i : Nat) : List Bool := L.getD i []
theorem blAt_eq (S : List Sg) (i : Nat) (h : i < S.length) : blAt S i = S[i].bl := by
  unfold blAt
  rw [List.getD_eq_getElem?_getD, List.getElem?_eq_getElem h]; rfl
theorem lvAt_eq (L : List (List Bool)) (i : Nat) (h : i < L.length) : lvAt L i = L[i] := by
  unfold lvAt
  rw [List.getD_eq_getElem?_getD, List.getElem?_eq_getElem h]; rfl
def bvals (l : List Bool) : List Value := l.map fun b => .bool b
theorem bvals_snoc (l : List Bool) (n : Bool) : bvals (l ++ [n]) = bvals l ++ [.bool n] := by simp [bvals]
/-- the cells of the segments: each one's blocks and age -/
def segXs (q : Nat → Value) (S : List Sg) : List Value := (List.range (S.length * 2)).map fun j => if j % 2 = 0 then q (j / 2) else .int .i64 (ageAt S (j / 2))
def livXs (p : Nat → Value) (n : Nat) : List Value := (List.range n).map p
theorem segXs_len (q : Nat → Value) (S : List Sg) : (segXs q S).length = S.length * 2 := by simp [segXs]
theorem livXs_len (p : Nat → Value) (n : Nat) : (livXs p n).length = n := by simp [livXs]
theorem segXs_q (q : Nat → Value) (S : List Sg) (i : Nat) (h : i * 2 < (segXs q S).length) : (segXs q S)[i * 2] = q i := by simp [segXs]
theorem segXs_age (q : Nat → Value) (S : List Sg) (i : Nat) (h : i * 2 + 1 < (segXs q S).length) : (segXs q S)[i * 2 + 1] = .int .i64 (ageAt S i) := by
  have e1 : (i * 2 + 1) % 2 = 1 := by omega
  have e2 : (i * 2 + 1) / 2 = i := by omega
  simp [segXs, e2]
theorem livXs_at (p : Nat → Value) (n i : Nat) (h : i < (livXs p n).length) : (livXs p n)[i] = p i := by simp [livXs]
/-- the rows of a heap -/
def hf (vS vL : Value) (q p : Nat → Value) (S : List Sg) (L : List (List Bool)) : Ix → Rw
  | .s => ⟨40, 2, vS, S.length, segXs q S⟩
  | .l => ⟨53, 1, vL, L.length, livXs p L.length⟩
  | .b i => ⟨3, 1, q i, (blAt S i).length, ivals (blAt S i)⟩
  | .v i => ⟨4, 1, p i, (lvAt L i).length, bvals (lvAt L i)⟩
def hd2 (m n : Nat) : Ix → Prop
  | .s => True
  | .l => True
  | .b i => i < m
  | .v i => i < n
def hd (n : Nat) : Ix → Prop := hd2 n n
/-- a heap of one's own -/
def HR (lo : Nat) (vS vL : Value) (S : List Sg) (L : List (List Bool)) (w : World) : Prop := L.length = S.length ∧ ∃ q p, Fam lo (hd S.length) (hf vS vL q p S L) w
theorem bflat (l : List Bool) : (l.map bcell).flatten = bvals l := by
  induction l with
  | nil => rfl
  | cons n l ih => rw [List.map_cons, List.flatten_cons, ih]; rfl
theorem bwide (l : List Bool) (i : Nat) (hi : i < (l.map bcell).length) : (l.map bcell)[i].length = 1 := by rw [List.getElem_map]; rfl
theorem is_of_own {w : World} {B : Nat} {v : Value} {l : List Int} (h : w.ownsRow B 3 1 v l.length (ivals l)) : ∃ a c, v = .slice a l.length c ∧ Is w.heap.size a l w := by
  by_cases h0 : 0 < l.length
  · obtain ⟨R, c, e, hR, hrow⟩ := own_irow h h0
    exact ⟨_, c, e, hrow.sl hrow.lt⟩
  · obtain ⟨a, c, e⟩ := rw_form h
    obtain rfl : l = [] := List.eq_nil_of_length_eq_zero (by omega)
    exact ⟨a, c, e, ⟨fun h0 => absurd h0 (by simp)⟩⟩
theorem own_brow {w : World} {B : Nat} {v : Value} {l : List Bool} (h : w.ownsRow B 4 1 v l.length (bvals l)) (h0 : 0 < l.length) : ∃ R c, v = .slice (some ⟨R, 0, none⟩) l.length c ∧ B ≤ R ∧ BRow R l w := by
  have hv : v ≠ .slice none 0 0 := by
    intro e
    rcases h.2 with ⟨_, h1⟩ | ⟨g, cap, cur, e2, _⟩
    · omega
    · rw [e] at e2; cases e2
  rw [← bflat] at h
  obtain ⟨R, cap, e, hR, hrow⟩ := GRow.ofOwns (rows := l.map bcell) (bwide l) h (by simp) hv
  exact ⟨R, cap, e, hR, hrow⟩
theorem bs_of_own {w : World} {B : Nat} {v : Value} {l : List Bool} (h : w.ownsRow B 4 1 v l.length (bvals l)) : ∃ a c, v = .slice a l.length c ∧ Bs w.heap.size a l w := by
  by_cases h0 : 0 < l.length
  · obtain ⟨R, c, e, hR, hrow⟩ := own_brow h h0
    exact ⟨_, c, e, hrow.sl hrow.lt⟩
  · obtain ⟨a, c, e⟩ := rw_form h
    obtain rfl : l = [] := List.eq_nil_of_length_eq_zero (by omega)
    exact ⟨a, c, e, ⟨fun h0 => absurd h0 (by simp)⟩⟩
/-- a heap of one's own, read -/
theorem HR.read {lo : Nat} {vS vL : Value} {S : List Sg} {L : List (List Bool)} {w : World} (h : HR lo vS vL S L w) : ∃ aS kS aL kL, vS = .slice aS S.length kS ∧ vL = .slice aL L.length kL ∧ Gs w.heap.size aS S w ∧ Vs w.heap.size aL L w := by
  obtain ⟨hl, q, p, hF⟩ := h
  have hs : w.ownsRow lo 40 2 vS S.length (segXs q S) := hF.own .s trivial
  have hL : w.ownsRow lo 53 1 vL L.length (livXs p L.length) := hF.own .l trivial
  obtain ⟨aS, kS, e1⟩ := rw_form hs
  obtain ⟨aL, kL, e2⟩ := rw_form hL
  refine ⟨aS, kS, aL, kL, e1, e2, fun h0 => ?_, fun h0 => ?_⟩
  · obtain ⟨g, c, e3, _, hg⟩ := rw_block hs h0
    rw [e1] at e3
    have ea : aS = some ⟨g, 0, none⟩ := by injection e3
    refine ⟨g, 0, ea, hg, fun i hi => ?_⟩
    have hown : vS.ownBlock = some g := by rw [e1, ea]; rfl
    have hb : w.ownsRow lo 3 1 (q i) (blAt S i).length (ivals (blAt S i)) := hF.own (.b i) hi
    rw [blAt_eq S i hi] at hb
    obtain ⟨a, c, e4, hI⟩ := is_of_own hb
    have h1 := rw_cell hs hown (i * 2) (by rw [segXs_len]; omega)
    have h2 := rw_cell hs hown (i * 2 + 1) (by rw [segXs_len]; omega)
    rw [segXs_q, e4] at h1
    rw [segXs_age, ageAt_eq S i hi] at h2
    rw [Nat.zero_add]
    exact ⟨a, c, h1, h2, hI⟩
  · obtain ⟨g, c, e3, _, hg⟩ := rw_block hL h0
    rw [e2] at e3
    have ea : aL = some ⟨g, 0, none⟩ := by injection e3
    refine ⟨g, 0, ea, hg, fun i hi => ?_⟩
    have hown : vL.ownBlock = some g := by rw [e2, ea]; rfl
    have hb : w.ownsRow lo 4 1 (p i) (lvAt L i).length (bvals (lvAt L i)) := hF.own (.v i) (show i < S.length by omega)
    rw [lvAt_eq L i hi] at hb
    obtain ⟨a, c, e4, hI⟩ := bs_of_own hb
    have h1 := rw_cell hL hown i (by rw [livXs_len]; omega)
    rw [livXs_at, e4] at h1
    rw [Nat.zero_add]
    exact ⟨a, c, h1, hI⟩
theorem HR.on {lo : Nat} {vS vL : Value} {S : List Sg} {L : List (List Bool)} {w w' : World} (h : HR lo vS vL S L w) (g : Below w.heap.size w w') : HR lo vS vL S L w' := by
  obtain ⟨hl, q, p, hF⟩ := h
  exact ⟨hl, q, p, hF.below g⟩
theorem HR.low {lo lo' : Nat} {vS vL : Value} {S : List Sg} {L : List (List Bool)} {w : World} (h : HR lo vS vL S L w) (hb : lo' ≤ lo) : HR lo' vS vL S L w := by
  obtain ⟨hl, q, p, hF⟩ := h
  exact ⟨hl, q, p, ⟨fun x hx => rw_low (hF.own x hx) hb, hF.apart⟩⟩
theorem infoSgR : (Try.prog.info? 40).map (fun i => (i.zero, i.size, i.bytes)) = some (some (.agg #[.slice none 0 0, .int .i64 0]), 2, 32) := by kernel_rfl
theorem infoBsR : (Try.prog.info? 53).map (fun i => (i.zero, i.size, i.bytes)) = some (some (.slice none 0 0), 1, 24) := by kernel_rfl
end Go.Proofs.Ytohkhcjdjjlfbaa
namespace Go.Proofs.Ytohkhcjdjjlfbaa
set_option maxRecDepth 100000
open Go Go.ChangeShapes Go.WideShapes Go.ChangeAt Go.RowKit G00541
theorem app_any (t e : TypeId) (i : TypeInfo) (z : Value) (sz bs : Nat) (ht : Try.prog.underlying t = some (.slice e)) (hi : Try.prog.info? e = some i) (hz : i.zero = some z) (hs : i.size = sz) (hb : i.bytes = bs) (hzs : z.cells.size = sz) (h0 : 0 < sz)
    (W : World) (lo : Nat) (v : Value) (n : Nat) (xs : List Value) (hown : W.ownsRow lo e sz v n xs) (X off m c : Nat) (news : List Value) (hl : news.length = m * sz) (hc : ∀ j (h : j < news.length), W.cell? ⟨X, off + j, none⟩ = some news[j]) (h1 : ∀ u ∈ news, u.oneCell' = true)
    (hm : n + m ≤ 10000) (hbs : bs ≤ 64) (hlo : lo ≤ W.heap.size) :
    ∃ v' w', (∀ ty, (Builtin.append_ #[t, t] ty #[v, .slice (some ⟨X, off, none⟩) m c]).run Try.prog W = .ok v' w') ∧ w'.ownsRow lo e sz v' (n + m) (xs ++ news) ∧ W.grownBy w' v.ownBlock ∧ (v'.ownBlock = v.ownBlock ∨ v'.ownBlock = some W.heap.size) := by
  have hbb : (n + m) * bs ≤ 140737488355328 := Nat.le_trans (Nat.mul_le_mul hm hbs) (by decide)
  have hn : ∀ j u, news[j]? = some u → W.cell? ((⟨X, off, none⟩ : Addr).add j) = some u := fun j u hu => by
    obtain ⟨hj, rfl⟩ := List.getElem?_eq_some_iff.1 hu
    have hadd : (⟨X, off, none⟩ : Addr).add j = ⟨X, off + j, none⟩ := by unfold Addr.add; split <;> simp_all
    rw [hadd]
    exact hc j hj
  obtain ⟨v', w', hr, h2, h3, _, h5⟩ := run_append_own_at W lo t t e i z sz bs ht hi hz hs hb hzs h0 v n xs hown ⟨X, off, none⟩ m c news hl hn h1 (by unfold maxLen; omega) hbb hlo
  exact ⟨v', w', fun ty => hr, h2, h3, h5⟩
theorem app_none (t e : TypeId) (i : TypeInfo) (ht : Try.prog.underlying t = some (.slice e)) (hi : Try.prog.info? e = some i) (W : World) (a : Option Addr) (n c c' : Nat) (hn : n ≤ c) (ty : TypeId) :
    (Builtin.append_ #[t, t] ty #[.slice a n c, .slice none 0 c']).run Try.prog W = .ok (.slice a n c) W := by
  cases a <;> simp [Builtin.append_, run_underlying ht, sizeOf, typeInfo, hi, Builtin.lenOf, Builtin.firstCells, loadCells, storeCells, hn]
theorem rw_cap {w : World} {base : Nat} {e : TypeId} {size : Nat} {a : Option Addr} {m n c : Nat} {xs : List Value} (h : w.ownsRow base e size (.slice a m c) n xs) : n ≤ c ∧ m = n := by
  rcases h.2 with ⟨h1, rfl⟩ | ⟨g', cap, cur, h1, _, _, h2, _⟩
  · injection h1 with _ h2 h3; omega
  · injection h1 with _ h3 h4; omega
/-- numbers appended to an own row -/
theorem app_i (W : World) (lo : Nat) (v : Value) (n : Nat) (xs : List Value) (hown : W.ownsRow lo 3 1 v n xs) (a : Option Addr) (c : Nat) (l : List Int) (hI : Is W.heap.size a l W) (hm : n + l.length ≤ 10000) (hlo : lo ≤ W.heap.size) :
    ∃ v' w', (∀ ty, (Builtin.append_ #[35, 35] ty #[v, .slice a l.length c]).run Try.prog W = .ok v' w') ∧ w'.ownsRow lo 3 1 v' (n + l.length) (xs ++ ivals l) ∧ W.grownBy w' v.ownBlock ∧ (v'.ownBlock = v.ownBlock ∨ v'.ownBlock = some W.heap.size) := by
  obtain ⟨i0, hi, hz0, hz1, hz2⟩ := info_parts infoI
  by_cases h0 : 0 < l.length
  · obtain ⟨b, off, rfl, hb, hc⟩ := hI.cell h0
    exact app_any 35 3 i0 _ 1 8 Try.underlying35 hi hz0 hz1 hz2 rfl (by decide) W lo v n xs hown b off l.length c (ivals l) (by simp [ivals]) (fun j hj => by
      have hj' : j < l.length := by simpa [ivals] using hj
      rw [hc j hj']; simp [ivals]) (fun u hu => by
      obtain ⟨x, _, rfl⟩ := List.mem_map.1 hu
      rfl) hm (by decide) hlo
  · obtain rfl : l = [] := List.eq_nil_of_length_eq_zero (by omega)
    obtain ⟨a', c', rfl⟩ := rw_form hown
    have hcap := (rw_cap hown).1
    cases a with
    | none => exact ⟨_, W, fun ty => app_none 35 3 i0 Try.underlying35 hi W a' n c' c hcap ty, by simpa [ivals] using hown, ⟨rfl, rfl, rfl, Nat.le_refl _, fun _ _ _ => rfl⟩, Or.inl rfl⟩
    | some ad =>
      obtain ⟨v', w', hr, h2, h3, _, h5⟩ := run_append_own_at W lo 35 35 3 i0 _ 1 8 Try.underlying35 hi hz0 hz1 hz2 rfl (by decide) _ n xs hown ad 0 c [] rfl (fun j u h => by cases h) (fun u h => by cases h) (by unfold maxLen; simp at hm; omega) (by simp at hm ⊢; omega) hlo
      exact ⟨v', w', fun ty => hr, by simpa [ivals] using h2, h3, h5⟩
/-- truth values appended to an own row -/
theorem app_b (W : World) (lo : Nat) (v : Value) (n : Nat) (xs : List Value) (hown : W.ownsRow lo 4 1 v n xs) (a : Option Addr) (c : Nat) (l : List Bool) (hI : Bs W.heap.size a l W) (hm : n + l.length ≤ 10000) (hlo : lo ≤ W.heap.size) :
    ∃ v' w', (∀ ty, (Builtin.append_ #[53, 53] ty #[v, .slice a l.length c]).run Try.prog W = .ok v' w') ∧ w'.ownsRow lo 4 1 v' (n + l.length) (xs ++ bvals l) ∧ W.grownBy w' v.ownBlock ∧ (v'.ownBlock = v.ownBlock ∨ v'.ownBlock = some W.heap.size) := by
  obtain ⟨i0, hi, hz0, hz1, hz2⟩ := info_parts infoB
  by_cases h0 : 0 < l.length
  · obtain ⟨b, off, rfl, hb, hc⟩ := hI.cell h0
    exact app_any 53 4 i0 _ 1 1 Try.underlying53 hi hz0 hz1 hz2 rfl (by decide) W lo v n xs hown b off l.length c (bvals l) (by simp [bvals]) (fun j hj => by
      have hj' : j < l.length := by simpa [bvals] using hj
      rw [hc j hj']; simp [bvals]) (fun u hu => by
      obtain ⟨x, _, rfl⟩ := List.mem_map.1 hu
      rfl) hm (by decide) hlo
  · obtain rfl : l = [] := List.eq_nil_of_length_eq_zero (by omega)
    obtain ⟨a', c', rfl⟩ := rw_form hown
    have hcap := (rw_cap hown).1
    cases a with
    | none => exact ⟨_, W, fun ty => app_none 53 4 i0 Try.underlying53 hi W a' n c' c hcap ty, by simpa [bvals] using hown, ⟨rfl, rfl, rfl, Nat.le_refl _, fun _ _ _ => rfl⟩, Or.inl rfl⟩
    | some ad =>
      obtain ⟨v', w', hr, h2, h3, _, h5⟩ := run_append_own_at W lo 53 53 4 i0 _ 1 1 Try.underlying53 hi hz0 hz1 hz2 rfl (by decide) _ n xs hown ad 0 c [] rfl (fun j u h => by cases h) (fun u h => by cases h) (by unfold maxLen; simp at hm; omega) (by simp at hm ⊢; omega) hlo
      exact ⟨v', w', fun ty => hr, by simpa [bvals] using h2, h3, h5⟩
/-- one segment appended -/
theorem app_s (W : World) (lo : Nat) (v : Value) (n : Nat) (xs : List Value) (hown : W.ownsRow lo 40 2 v n xs) (X : Nat) (u : Value) (age : Int) (hu : u.oneCell' = true) (c0 : W.cell? ⟨X, 0, none⟩ = some u) (c1 : W.cell? ⟨X, 1, none⟩ = some (.int .i64 age)) (hm : n + 1 ≤ 10000) (hlo : lo ≤ W.heap.size) :
    ∃ v' w', (∀ ty, (Builtin.append_ #[23, 23] ty #[v, .slice (some ⟨X, 0, none⟩) 1 1]).run Try.prog W = .ok v' w') ∧ w'.ownsRow lo 40 2 v' (n + 1) (xs ++ [u, .int .i64 age]) ∧ W.grownBy w' v.ownBlock ∧ (v'.ownBlock = v.ownBlock ∨ v'.ownBlock = some W.heap.size) := by
  obtain ⟨i0, hi, hz0, hz1, hz2⟩ := info_parts infoSgR
  exact app_any 23 40 i0 _ 2 32 Try.underlying23 hi hz0 hz1 hz2 rfl (by decide) W lo v n xs hown X 0 1 1 [u, .int .i64 age] rfl (fun j hj => by
    match j, hj with
    | 0, _ => exact c0
    | 1, _ => exact c1) (fun x hx => by
    simp only [List.mem_cons, List.not_mem_nil, or_false] at hx
    rcases hx with rfl | rfl
    · exact hu
    · rfl) hm (by decide) hlo
/-- one row of truth values appended -/
theorem app_v (W : World) (lo : Nat) (v : Value) (n : Nat) (xs : List Value) (hown : W.ownsRow lo 53 1 v n xs) (X : Nat) (u : Value) (hu : u.oneCell' = true) (c0 : W.cell? ⟨X, 0, none⟩ = some u) (hm : n + 1 ≤ 10000) (hlo : lo ≤ W.heap.size) :
    ∃ v' w', (∀ ty, (Builtin.append_ #[24, 24] ty #[v, .slice (some ⟨X, 0, none⟩) 1 1]).run Try.prog W = .ok v' w') ∧ w'.ownsRow lo 53 1 v' (n + 1) (xs ++ [u]) ∧ W.grownBy w' v.ownBlock ∧ (v'.ownBlock = v.ownBlock ∨ v'.ownBlock = some W.heap.size) := by
  obtain ⟨i0, hi, hz0, hz1, hz2⟩ := info_parts infoBsR
  exact app_any 24 53 i0 _ 1 24 Try.underlying24 hi hz0 hz1 hz2 rfl (by decide) W lo v n xs hown X 0 1 1 [u] rfl (fun j hj => by
    match j, hj with
    | 0, _ => exact c0) (fun x hx => by
    simp only [List.mem_cons, List.not_mem_nil, or_false] at hx
    subst hx
    exact hu) hm (by decide) hlo
def upN (q : Nat → Value) (k : Nat) (v : Value) : Nat → Value := fun i => if i = k then v else q i
theorem upN_same (q : Nat → Value) (k : Nat) (v : Value) : upN q k v k = v := if_pos rfl
theorem upN_other (q : Nat → Value) (k : Nat) (v : Value) (i : Nat) (h : i ≠ k) : upN q k v i = q i := if_neg h
theorem ageAt_left (S : List Sg) (s : Sg) (i : Nat) (h : i < S.length) : ageAt (S ++ [s]) i = ageAt S i := by
  rw [ageAt_eq _ _ (by simp; omega), ageAt_eq _ _ h, List.getElem_append_left h]
theorem ageAt_last (S : List Sg) (s : Sg) : ageAt (S ++ [s]) S.length = s.age := by
  rw [ageAt_eq _ _ (by simp), List.getElem_append_right (Nat.le_refl _)]; simp
theorem blAt_left (S : List Sg) (s : Sg) (i : Nat) (h : i < S.length) : blAt (S ++ [s]) i = blAt S i := by
  rw [blAt_eq _ _ (by simp; omega), blAt_eq _ _ h, List.getElem_append_left h]
theorem blAt_last (S : List Sg) (s : Sg) : blAt (S ++ [s]) S.length = s.bl := by
  rw [blAt_eq _ _ (by simp), List.getElem_append_right (Nat.le_refl _)]; simp
theorem lvAt_left (L : List (List Bool)) (s : List Bool) (i : Nat) (h : i < L.length) : lvAt (L ++ [s]) i = lvAt L i := by
  rw [lvAt_eq _ _ (by simp; omega), lvAt_eq _ _ h, List.getElem_append_left h]
theorem lvAt_last (L : List (List Bool)) (s : List Bool) : lvAt (L ++ [s]) L.length = s := by
  rw [lvAt_eq _ _ (by simp), List.getElem_append_right (Nat.le_refl _)]; simp
theorem segXs_snoc (q : Nat → Value) (S : List Sg) (s : Sg) (v : Value) : segXs (upN q S.length v) (S ++ [s]) = segXs q S ++ [v, .int .i64 s.age] := by
  unfold segXs
  have e : (S ++ [s]).length * 2 = S.length * 2 + 1 + 1 := by simp; omega
  rw [e, List.range_succ, List.range_succ, List.map_append, List.map_append]
  have e1 : (S.length * 2 + 1) % 2 = 1 := by omega
  have e2 : (S.length * 2 + 1) / 2 = S.length := by omega
  have e3 : (S.length * 2) % 2 = 0 := by omega
  have e4 : (S.length * 2) / 2 = S.length := by omega
  simp only [List.map_cons, List.map_nil, e1, e2, e3, e4, if_true, upN_same, ageAt_last, List.append_assoc, List.cons_append, List.nil_append]
  rw [if_neg (by decide)]
  congr 1
  apply List.map_congr_left
  intro j hj
  have hj' := List.mem_range.1 hj
  have hlt : j / 2 < S.length := by omega
  rw [upN_other _ _ _ _ (by omega), ageAt_left _ _ _ hlt]
theorem livXs_snoc (p : Nat → Value) (n : Nat) (v : Value) : livXs (upN p n v) (n + 1) = livXs p n ++ [v] := by
  unfold livXs
  rw [List.range_succ, List.map_append]
  simp only [List.map_cons, List.map_nil, upN_same]
  congr 1
  apply List.map_congr_left
  intro j hj
  have hj' := List.mem_range.1 hj
  rw [upN_other _ _ _ _ (by omega)]
/-- a segment more -/
theorem fam_seg {lo : Nat} {vS vL : Value} {q p : Nat → Value} {S : List Sg} {L : List (List Bool)} {W0 W2 W3 W4 : World} {m : Nat} (h : Fam lo (hd2 S.length m) (hf vS vL q p S L) W0) (g2 : W0.grownBy W2 none) (s : Sg) (v1 : Value)
    (o1 : W2.ownsRow W0.heap.size 3 1 v1 s.bl.length (ivals s.bl)) (hlo : lo ≤ W0.heap.size) (g3 : W2.grownBy W3 none) (vS' : Value) (o4 : W4.ownsRow lo 40 2 vS' (S.length + 1) (segXs q S ++ [v1, .int .i64 s.age])) (g4 : W3.grownBy W4 vS.ownBlock)
    (b4 : vS'.ownBlock = vS.ownBlock ∨ vS'.ownBlock = some W3.heap.size) : Fam lo (hd2 (S.length + 1) m) (hf vS' vL (upN q S.length v1) p (S ++ [s]) L) W4 := by
  have F2 : Fam lo (hd2 (S.length + 1) m) (upR (hf vS vL q p S L) (.b S.length) ⟨3, 1, v1, s.bl.length, ivals s.bl⟩) W2 :=
    h.grow (.b S.length) (fun x hx hn => by
      cases x with
      | s => trivial
      | l => trivial
      | b i =>
        have h1 : i < S.length + 1 := hx
        have h2 : i ≠ S.length := fun e => hn (by rw [e])
        exact (show i < S.length by omega)
      | v i => exact hx) _ none (Or.inl rfl) g2 (rw_low o1 hlo) (fun k hk => Or.inr ((o1.lt k hk).1))
  have F3 := F2.on g3
  have F4 := F3.grow (D' := hd2 (S.length + 1) m) .s (fun x hx _ => hx) ⟨40, 2, vS', S.length + 1, segXs q S ++ [v1, .int .i64 s.age]⟩ vS.ownBlock (Or.inr ⟨trivial, by rw [upR_other _ _ _ _ (by intro e; cases e)]; rfl⟩) g4 o4 (fun k hk => by
    rcases b4 with e | e
    · exact Or.inl (e.symm.trans hk)
    · rw [hk] at e; injection e with e; exact Or.inr (by omega))
  refine F4.congr fun x hx => ?_
  cases x with
  | s =>
    rw [upR_same]
    show (⟨40, 2, vS', (S ++ [s]).length, segXs (upN q S.length v1) (S ++ [s])⟩ : Rw) = _
    rw [segXs_snoc, List.length_append]; rfl
  | l => rw [upR_other _ _ _ _ (by intro e; cases e), upR_other _ _ _ _ (by intro e; cases e)]; rfl
  | b i =>
    rw [upR_other _ _ _ _ (by intro e; cases e)]
    have h1 : i < S.length + 1 := hx
    by_cases e : i = S.length
    · subst e
      rw [upR_same]
      show (⟨3, 1, upN q S.length v1 S.length, (blAt (S ++ [s]) S.length).length, ivals (blAt (S ++ [s]) S.length)⟩ : Rw) = _
      rw [upN_same, blAt_last]
    · rw [upR_other _ _ _ _ (by intro e2; injection e2 with e2; exact e e2)]
      show (⟨3, 1, upN q S.length v1 i, (blAt (S ++ [s]) i).length, ivals (blAt (S ++ [s]) i)⟩ : Rw) = ⟨3, 1, q i, (blAt S i).length, ivals (blAt S i)⟩
      rw [upN_other _ _ _ _ e, blAt_left _ _ _ (by omega)]
  | v i => rw [upR_other _ _ _ _ (by intro e; cases e), upR_other _ _ _ _ (by intro e; cases e)]; rfl
/-- a row of truth values more -/
theorem fam_liv {lo : Nat} {vS vL : Value} {q p : Nat → Value} {S : List Sg} {L : List (List Bool)} {W0 W2 W3 W4 : World} {m : Nat} (h : Fam lo (hd2 m L.length) (hf vS vL q p S L) W0) (g2 : W0.grownBy W2 none) (s : List Bool) (v1 : Value)
    (o1 : W2.ownsRow W0.heap.size 4 1 v1 s.length (bvals s)) (hlo : lo ≤ W0.heap.size) (g3 : W2.grownBy W3 none) (vL' : Value) (o4 : W4.ownsRow lo 53 1 vL' (L.length + 1) (livXs p L.length ++ [v1])) (g4 : W3.grownBy W4 vL.ownBlock)
    (b4 : vL'.ownBlock = vL.ownBlock ∨ vL'.ownBlock = some W3.heap.size) : Fam lo (hd2 m (L.length + 1)) (hf vS vL' q (upN p L.length v1) S (L ++ [s])) W4 := by
  have F2 : Fam lo (hd2 m (L.length + 1)) (upR (hf vS vL q p S L) (.v L.length) ⟨4, 1, v1, s.length, bvals s⟩) W2 :=
    h.grow (.v L.length) (fun x hx hn => by
      cases x with
      | s => trivial
      | l => trivial
      | v i =>
        have h1 : i < L.length + 1 := hx
        have h2 : i ≠ L.length := fun e => hn (by rw [e])
        exact (show i < L.length by omega)
      | b i => exact hx) _ none (Or.inl rfl) g2 (rw_low o1 hlo) (fun k hk => Or.inr ((o1.lt k hk).1))
  have F3 := F2.on g3
  have F4 := F3.grow (D' := hd2 m (L.length + 1)) .l (fun x hx _ => hx) ⟨53, 1, vL', L.length + 1, livXs p L.length ++ [v1]⟩ vL.ownBlock (Or.inr ⟨trivial, by rw [upR_other _ _ _ _ (by intro e; cases e)]; rfl⟩) g4 o4 (fun k hk => by
    rcases b4 with e | e
    · exact Or.inl (e.symm.trans hk)
    · rw [hk] at e; injection e with e; exact Or.inr (by omega))
  refine F4.congr fun x hx => ?_
  cases x with
  | l =>
    rw [upR_same]
    show (⟨53, 1, vL', (L ++ [s]).length, livXs (upN p L.length v1) (L ++ [s]).length⟩ : Rw) = _
    rw [List.length_append, List.length_singleton, livXs_snoc]
  | s => rw [upR_other _ _ _ _ (by intro e; cases e), upR_other _ _ _ _ (by intro e; cases e)]; rfl
  | v i =>
    rw [upR_other _ _ _ _ (by intro e; cases e)]
    have h1 : i < L.length + 1 := hx
    by_cases e : i = L.length
    · subst e
      rw [upR_same]
      show (⟨4, 1, upN p L.length v1 L.length, (lvAt (L ++ [s]) L.length).length, bvals (lvAt (L ++ [s]) L.length)⟩ : Rw) = _
      rw [upN_same, lvAt_last]
    · rw [upR_other _ _ _ _ (by intro e2; injection e2 with e2; exact e e2)]
      show (⟨4, 1, upN p L.length v1 i, (lvAt (L ++ [s]) i).length, bvals (lvAt (L ++ [s]) i)⟩ : Rw) = ⟨4, 1, p i, (lvAt L i).length, bvals (lvAt L i)⟩
      rw [upN_other _ _ _ _ e, lvAt_left _ _ _ (by omega)]
  | b i => rw [upR_other _ _ _ _ (by intro e; cases e), upR_other _ _ _ _ (by intro e; cases e)]; rfl
end Go.Proofs.Ytohkhcjdjjlfbaa
namespace Go.Proofs.Ytohkhcjdjjlfbaa
set_option maxRecDepth 100000
open Go.ChangeShapes Go.WideShapes Go.ChangeAt Go.RowKit G00541
/-- what a copy keeps while it goes: its argument's box, its answer's, its own -/
structure OI (w : World) (o : Obj) (vS vL : Value) (wr : World) : Prop where
  below : Below w.heap.size w wr
  box : wr.heap[w.heap.size]? = some o
  res : wr.heap[w.heap.size + 1]? = some (.cells #[.slice none 0 0, .slice none 0 0] 26)
  out : wr.heap[w.heap.size + 1 + 1]? = some (.cells #[vS, vL] 26)
theorem OI.size {w : World} {o : Obj} {vS vL : Value} {wr : World} (h : OI w o vS vL wr) : w.heap.size + 3 ≤ wr.heap.size := by
  rcases Nat.lt_or_ge (w.heap.size + 1 + 1) wr.heap.size with h' | h'
  · omega
  · have := h.out
    rw [Array.getElem?_eq_none h'] at this; cases this
theorem OI.on {w : World} {o : Obj} {vS vL : Value} {wr w' : World} (h : OI w o vS vL wr) (g : Below (w.heap.size + 3) wr w') : OI w o vS vL w' :=
  ⟨h.below.trans (g.mono (by omega)), (g.block _ (by omega)).trans h.box, (g.block _ (by omega)).trans h.res, (g.block _ (by omega)).trans h.out⟩
theorem box_free {wr : World} {R : Nat} {cs : Array Value} {t : TypeId} (h : wr.heap[R]? = some (.cells cs t)) (i : Nat) : wr.frozen? ⟨R, i, none⟩ = false := by
  unfold World.frozen?
  rw [h]
  simp
theorem box_set {wr : World} {R : Nat} {cs : Array Value} {t : TypeId} (h : wr.heap[R]? = some (.cells cs t)) (i : Nat) (u : Value) : (wr.setCell ⟨R, i, none⟩ u).heap[R]? = some (.cells (cs.setIfInBounds i u) t) := by
  unfold World.setCell
  simp only
  rw [Array.getElem?_modify, if_pos rfl, h]
  rfl
theorem OI.set {w : World} {o : Obj} {vS vL : Value} {wr : World} (h : OI w o vS vL wr) (vS' : Value) : OI w o vS' vL (wr.setCell ⟨w.heap.size + 1 + 1, 0, none⟩ vS') :=
  ⟨setB h.below _ _ (by omega) _, (keepB _ _ _ _ _ (by omega)).trans h.box, (keepB _ _ _ _ _ (by omega)).trans h.res, by rw [box_set h.out]; rfl⟩
theorem OI.set1 {w : World} {o : Obj} {vS vL : Value} {wr : World} (h : OI w o vS vL wr) (vL' : Value) : OI w o vS vL' (wr.setCell ⟨w.heap.size + 1 + 1, 1, none⟩ vL') :=
  ⟨setB h.below _ _ (by omega) _, (keepB _ _ _ _ _ (by omega)).trans h.box, (keepB _ _ _ _ _ (by omega)).trans h.res, by rw [box_set h.out]; rfl⟩
theorem below_of_grown {lo : Nat} {w w' : World} {row : Option Nat} (g : w.grownBy w' row) (hlo : lo ≤ w.heap.size) (hr : ∀ k, row = some k → lo ≤ k) : Below lo w w' :=
  ⟨g.os, g.tape, g.output, g.size, fun k hk => g.block k (by omega) (fun e => by have := hr k e.symm; omega)⟩
theorem oneCell_own {w : World} {base : Nat} {e : TypeId} {size : Nat} {v : Value} {n : Nat} {xs : List Value} (h : w.ownsRow base e size v n xs) : v.oneCell' = true := by
  obtain ⟨a, c, rfl⟩ := rw_form h
  rfl
theorem grown_trans {a b c : World} (h : a.grownBy b none) (g : b.grownBy c none) : a.grownBy c none :=
  ⟨g.os.trans h.os, g.tape.trans h.tape, g.output.trans h.output, Nat.le_trans h.size g.size, fun k hk hn => (g.block k (Nat.lt_of_lt_of_le hk h.size) hn).trans (h.block k hk hn)⟩
theorem step_append_run {P : Program} {ops : Array Oper} {o : Oper} {a : Act} {w : World} {K : Act → World → Prop} {Q : Exit → Act → World → Prop} {E : Prop}
    (hg : o.guard = none) (s x : Operand) (t : TypeId) (hop : o.op = Op.call { callee := Callee.builtin Builtin.append, args := #[s, x], argTypes := #[t, t] })
    (v y : Value) (hs : a.eval s = v) (hx : a.eval x = y) (v' : Value) (w' : World) (hrun : ∀ ty, (Builtin.append_ #[t, t] ty #[v, y]).run P w = .ok v' w') (hK : K (a.put o.dst v') w') :
    if Region.wanted o (yielded ops a.tmps) = true then Oper.wp P o a w K Q else E := by
  have hw : Region.wanted o (yielded ops a.tmps) = true := by simp [Region.wanted, hg]
  rw [if_pos hw]
  unfold Oper.wp
  simp [execOp, hop, resolve, invoke, builtin, hs, hx, hrun, Result.andThen]
  exact hK
theorem grown_own {a b c : World} {d : Value} {e : TypeId} {sz n : Nat} {xs : List Value} (h : a.grownBy b none) (o : b.ownsRow a.heap.size e sz d n xs) (g : b.grownBy c d.ownBlock) : a.grownBy c none :=
  ⟨g.os.trans h.os, g.tape.trans h.tape, g.output.trans h.output, Nat.le_trans h.size g.size, fun k hk hn => (g.block k (Nat.lt_of_lt_of_le hk h.size) (fun e => by have := o.lt k e.symm; omega)).trans (h.block k hk hn)⟩
theorem seg_step {lo : Nat} {vS vL : Value} {q p : Nat → Value} {S : List Sg} {L : List (List Bool)} {V V1 : World} {m : Nat} (h : Fam lo (hd2 S.length m) (hf vS vL q p S L) V) (hlo : lo ≤ V.heap.size) (hn : S.length ≤ 100) (s : Sg) (hs : s.bl.length ≤ 100)
    (gV : V.grownBy V1 none) (d : Value) (od : V1.ownsRow V.heap.size 3 1 d 0 []) (pa : Option Addr) (c : Nat) (hI : Is V1.heap.size pa s.bl V1) :
    ∃ a1 c1 W2 a4 c4 W4, (∀ ty, (Builtin.append_ #[35, 35] ty #[d, .slice pa s.bl.length c]).run Try.prog V1 = .ok (.slice a1 s.bl.length c1) W2) ∧ (∀ ty, (Builtin.append_ #[23, 23] ty #[vS, .slice (some ⟨W2.heap.size, 0, none⟩) 1 1]).run Try.prog (W2.alloc (.cells #[.slice a1 s.bl.length c1, .int .i64 s.age] 40)) = .ok (.slice a4 (S.length + 1) c4) W4) ∧
      V.grownBy W2 none ∧ (∀ X, X < V.heap.size → vS.ownBlock ≠ some X → W4.heap[X]? = V.heap[X]?) ∧ Below lo V W4 ∧ Fam lo (hd2 (S.length + 1) m) (hf (.slice a4 (S.length + 1) c4) vL (upN q S.length (.slice a1 s.bl.length c1)) p (S ++ [s]) L) W4 := by
  obtain ⟨v1, W2, r1, o1, g1, _⟩ := app_i V1 V.heap.size d 0 [] od pa c s.bl hI (by omega) gV.size
  rw [Nat.zero_add, List.nil_append] at o1
  have g2 := grown_own gV od g1
  obtain ⟨a1, c1, rfl⟩ := rw_form o1
  have hS : V.ownsRow lo 40 2 vS S.length (segXs q S) := h.own .s trivial
  have hS3 : (W2.alloc (.cells #[.slice a1 s.bl.length c1, .int .i64 s.age] 40)).ownsRow lo 40 2 vS S.length (segXs q S) := (hS.kept g2 (by cases hv : vS.ownBlock <;> simp)).alloc _
  have hz := g2.size
  have hsz3 : (W2.alloc (.cells #[.slice a1 s.bl.length c1, .int .i64 s.age] 40)).heap.size = W2.heap.size + 1 := heap_size _ _
  obtain ⟨vS', W4, r4, o4, g4, b4⟩ := app_s (W2.alloc (.cells #[.slice a1 s.bl.length c1, .int .i64 s.age] 40)) lo vS S.length (segXs q S) hS3 W2.heap.size (.slice a1 s.bl.length c1) s.age (oneCell_own o1) (box_cell (heap_last _ _) 0) (box_cell (heap_last _ _) 1) (by omega) (by omega)
  obtain ⟨a4, c4, rfl⟩ := rw_form o4
  have g3 := World.grownBy_alloc W2 (.cells #[.slice a1 s.bl.length c1, .int .i64 s.age] 40) none
  refine ⟨a1, c1, W2, a4, c4, W4, r1, r4, g2, fun X hX hne => ?_, ?_, fam_seg h g2 s _ o1 hlo g3 _ o4 g4 b4⟩
  · exact (g4.block X (by omega) (fun e => hne e.symm)).trans ((g3.block X (by omega) (by simp)).trans (g2.block X hX (by simp)))
  · exact (below_of_grown g2 hlo (fun k e => by cases e)).trans ((below_of_grown g3 (by omega) (fun k e => by cases e)).trans (below_of_grown g4 (by omega) (fun k e => (hS.lt k e).1)))
theorem liv_step {lo : Nat} {vS vL : Value} {q p : Nat → Value} {S : List Sg} {L : List (List Bool)} {V V1 : World} {m : Nat} (h : Fam lo (hd2 m L.length) (hf vS vL q p S L) V) (hlo : lo ≤ V.heap.size) (hn : L.length ≤ 100) (s : List Bool) (hs : s.length ≤ 100)
    (gV : V.grownBy V1 none) (d : Value) (od : V1.ownsRow V.heap.size 4 1 d 0 []) (pa : Option Addr) (c : Nat) (hI : Bs V1.heap.size pa s V1) :
    ∃ a1 c1 W2 a4 c4 W4, (∀ ty, (Builtin.append_ #[53, 53] ty #[d, .slice pa s.length c]).run Try.prog V1 = .ok (.slice a1 s.length c1) W2) ∧ (∀ ty, (Builtin.append_ #[24, 24] ty #[vL, .slice (some ⟨W2.heap.size, 0, none⟩) 1 1]).run Try.prog (W2.alloc (.cells #[.slice a1 s.length c1] 53)) = .ok (.slice a4 (L.length + 1) c4) W4) ∧
      V.grownBy W2 none ∧ (∀ X, X < V.heap.size → vL.ownBlock ≠ some X → W4.heap[X]? = V.heap[X]?) ∧ Below lo V W4 ∧ Fam lo (hd2 m (L.length + 1)) (hf vS (.slice a4 (L.length + 1) c4) q (upN p L.length (.slice a1 s.length c1)) S (L ++ [s])) W4 := by
  obtain ⟨v1, W2, r1, o1, g1, _⟩ := app_b V1 V.heap.size d 0 [] od pa c s hI (by omega) gV.size
  rw [Nat.zero_add, List.nil_append] at o1
  have g2 := grown_own gV od g1
  obtain ⟨a1, c1, rfl⟩ := rw_form o1
  have hS : V.ownsRow lo 53 1 vL L.length (livXs p L.length) := h.own .l trivial
  have hS3 : (W2.alloc (.cells #[.slice a1 s.length c1] 53)).ownsRow lo 53 1 vL L.length (livXs p L.length) := (hS.kept g2 (by cases hv : vL.ownBlock <;> simp)).alloc _
  have hz := g2.size
  have hsz3 : (W2.alloc (.cells #[.slice a1 s.length c1] 53)).heap.size = W2.heap.size + 1 := heap_size _ _
  obtain ⟨vL', W4, r4, o4, g4, b4⟩ := app_v (W2.alloc (.cells #[.slice a1 s.length c1] 53)) lo vL L.length (livXs p L.length) hS3 W2.heap.size (.slice a1 s.length c1) (oneCell_own o1) (box_cell (heap_last _ _) 0) (by omega) (by omega)
  obtain ⟨a4, c4, rfl⟩ := rw_form o4
  have g3 := World.grownBy_alloc W2 (.cells #[.slice a1 s.length c1] 53) none
  refine ⟨a1, c1, W2, a4, c4, W4, r1, r4, g2, fun X hX hne => ?_, ?_, fam_liv h g2 s _ o1 hlo g3 _ o4 g4 b4⟩
  · exact (g4.block X (by omega) (fun e => hne e.symm)).trans ((g3.block X (by omega) (by simp)).trans (g2.block X hX (by simp)))
  · exact (below_of_grown g2 hlo (fun k e => by cases e)).trans ((below_of_grown g3 (by omega) (fun k e => by cases e)).trans (below_of_grown g4 (by omega) (fun k e => (hS.lt k e).1)))
end Go.Proofs.Ytohkhcjdjjlfbaa
namespace Go.Proofs.Ytohkhcjdjjlfbaa
set_option maxRecDepth 100000
open Go Go.ChangeShapes Go.WideShapes Go.ChangeAt Go.RowKit G00541
theorem ageAt_set (S : List Sg) (k : Nat) (s : Sg) (i : Nat) (h : i < S.length) : ageAt (S.set k s) i = if i = k then s.age else ageAt S i := by
  rw [ageAt_eq _ _ (by simpa using h), List.getElem_set]
  by_cases e : k = i
  · rw [if_pos e, if_pos e.symm]
  · rw [if_neg e, if_neg (fun x => e x.symm), ageAt_eq _ _ h]
theorem blAt_set (S : List Sg) (k : Nat) (s : Sg) (i : Nat) (h : i < S.length) : blAt (S.set k s) i = if i = k then s.bl else blAt S i := by
  rw [blAt_eq _ _ (by simpa using h), List.getElem_set]
  by_cases e : k = i
  · rw [if_pos e, if_pos e.symm]
  · rw [if_neg e, if_neg (fun x => e x.symm), blAt_eq _ _ h]
theorem lvAt_set (L : List (List Bool)) (k : Nat) (s : List Bool) (i : Nat) (h : i < L.length) : lvAt (L.set k s) i = if i = k then s else lvAt L i := by
  rw [lvAt_eq _ _ (by simpa using h), List.getElem_set]
  by_cases e : k = i
  · rw [if_pos e, if_pos e.symm]
  · rw [if_neg e, if_neg (fun x => e x.symm), lvAt_eq _ _ h]
/-- a block's number in a segment is set anew, its age too -/
theorem segXs_put (q : Nat → Value) (S : List Sg) (k : Nat) (s : Sg) (v : Value) (hs : s.age = ageAt S k) : segXs (upN q k v) (S.set k s) = (segXs q S).set (k * 2) v := by
  apply List.ext_getElem
  · rw [List.length_set, segXs_len, segXs_len, List.length_set]
  · intro j h1 h2
    rw [List.getElem_set]
    have hj : j < S.length * 2 := by rw [segXs_len, List.length_set] at h1; exact h1
    unfold segXs
    simp only [List.getElem_map, List.getElem_range, List.length_set]
    by_cases e : k * 2 = j
    · subst e
      have e3 : (k * 2) % 2 = 0 := by omega
      have e4 : (k * 2) / 2 = k := by omega
      rw [if_pos e3, e4, upN_same, if_pos rfl]
    · rw [if_neg e]
      by_cases e2 : j % 2 = 0
      · rw [if_pos e2, if_pos e2, upN_other _ _ _ _ (by omega)]
      · rw [if_neg e2, if_neg e2, ageAt_set _ _ _ _ (by omega)]
        by_cases e5 : j / 2 = k
        · rw [if_pos e5, hs, e5]
        · rw [if_neg e5]
theorem livXs_put (p : Nat → Value) (n k : Nat) (v : Value) : livXs (upN p k v) n = (livXs p n).set k v := by
  apply List.ext_getElem
  · rw [List.length_set, livXs_len, livXs_len]
  · intro j h1 h2
    rw [List.getElem_set, livXs_at]
    by_cases e : k = j
    · subst e; rw [upN_same, if_pos rfl]
    · rw [if_neg e, livXs_at, upN_other _ _ _ _ (fun x => e x.symm)]
theorem bvals_set (l : List Bool) (i : Nat) (b : Bool) : bvals (l.set i b) = (bvals l).set i (.bool b) := by
  unfold bvals; rw [List.map_set]
/-- one is live no more -/
theorem fam_off {lo : Nat} {vS vL : Value} {q p : Nat → Value} {S : List Sg} {L : List (List Bool)} {w : World} {m : Nat} (h : Fam lo (hd2 m L.length) (hf vS vL q p S L) w) (k : Nat) (hk : k < L.length) (g : Nat) (hg : (p k).ownBlock = some g) (i : Nat) :
    Fam lo (hd2 m L.length) (hf vS vL q p S (L.set k ((lvAt L k).set i false))) (w.setCell ⟨g, i, none⟩ (.bool false)) := by
  refine (h.set (.v k) hk g hg i (.bool false)).congr fun x hx => ?_
  cases x with
  | s => rw [upR_other _ _ _ _ (by intro e; cases e)]; rfl
  | l =>
    rw [upR_other _ _ _ _ (by intro e; cases e)]
    show (⟨53, 1, vL, (L.set k _).length, livXs p (L.set k _).length⟩ : Rw) = ⟨53, 1, vL, L.length, livXs p L.length⟩
    rw [List.length_set]
  | b j => rw [upR_other _ _ _ _ (by intro e; cases e)]; rfl
  | v j =>
    have hj : j < L.length := hx
    show (⟨4, 1, p j, (lvAt (L.set k ((lvAt L k).set i false)) j).length, bvals (lvAt (L.set k ((lvAt L k).set i false)) j)⟩ : Rw) = _
    rw [lvAt_set _ _ _ _ hj]
    by_cases e : j = k
    · subst e
      rw [upR_same, if_pos rfl, bvals_set, List.length_set]; rfl
    · rw [upR_other _ _ _ _ (by intro e2; injection e2 with e2; exact e e2), if_neg e]; rfl
/-- a block more in a segment -/
theorem fam_blk {lo : Nat} {vS vL : Value} {q p : Nat → Value} {S : List Sg} {L : List (List Bool)} {W0 W3 W4 : World} {n : Nat} (h : Fam lo (hd2 S.length n) (hf vS vL q p S L) W0) (k : Nat) (hk : k < S.length) (x : Int) (g3 : W0.grownBy W3 none)
    (v' : Value) (o4 : W4.ownsRow lo 3 1 v' ((blAt S k).length + 1) (ivals (blAt S k ++ [x]))) (g4 : W3.grownBy W4 (q k).ownBlock) (b4 : v'.ownBlock = (q k).ownBlock ∨ v'.ownBlock = some W3.heap.size) (g : Nat) (hg : vS.ownBlock = some g) :
    Fam lo (hd2 S.length n) (hf vS vL (upN q k v') p (S.set k ⟨blAt S k ++ [x], ageAt S k⟩) L) (W4.setCell ⟨g, k * 2, none⟩ v') := by
  have F4 := (h.on g3).grow (D' := hd2 S.length n) (.b k) (fun x hx _ => hx) ⟨3, 1, v', (blAt S k).length + 1, ivals (blAt S k ++ [x])⟩ (q k).ownBlock (Or.inr ⟨hk, rfl⟩) g4 o4 (fun j hj => by
    rcases b4 with e | e
    · exact Or.inl (e.symm.trans hj)
    · rw [hj] at e; injection e with e; exact Or.inr (by omega))
  have F5 := F4.set .s trivial g (by rw [upR_other _ _ _ _ (by intro e; cases e)]; exact hg) (k * 2) v'
  refine F5.congr fun y hy => ?_
  cases y with
  | s =>
    rw [upR_same, upR_other _ _ _ _ (by intro e; cases e)]
    show (⟨40, 2, vS, (S.set k _).length, segXs (upN q k v') (S.set k _)⟩ : Rw) = ⟨40, 2, vS, S.length, (segXs q S).set (k * 2) v'⟩
    rw [segXs_put q S k ⟨blAt S k ++ [x], ageAt S k⟩ v' rfl, List.length_set]
  | l => rw [upR_other _ _ _ _ (by intro e; cases e), upR_other _ _ _ _ (by intro e; cases e)]; rfl
  | b j =>
    rw [upR_other _ _ _ _ (by intro e; cases e)]
    have hj : j < S.length := hy
    show (⟨3, 1, upN q k v' j, (blAt (S.set k ⟨blAt S k ++ [x], ageAt S k⟩) j).length, ivals (blAt (S.set k ⟨blAt S k ++ [x], ageAt S k⟩) j)⟩ : Rw) = _
    rw [blAt_set _ _ _ _ hj]
    by_cases e : j = k
    · subst e
      rw [upR_same, if_pos rfl, upN_same]
      show (⟨3, 1, v', (blAt S j ++ [x]).length, ivals (blAt S j ++ [x])⟩ : Rw) = _
      rw [List.length_append]; rfl
    · rw [upR_other _ _ _ _ (by intro e2; injection e2 with e2; exact e e2), if_neg e, upN_other _ _ _ _ e]; rfl
  | v j => rw [upR_other _ _ _ _ (by intro e; cases e), upR_other _ _ _ _ (by intro e; cases e)]; rfl
/-- a truth value more in a row -/
theorem fam_lv {lo : Nat} {vS vL : Value} {q p : Nat → Value} {S : List Sg} {L : List (List Bool)} {W0 W3 W4 : World} {m : Nat} (h : Fam lo (hd2 m L.length) (hf vS vL q p S L) W0) (k : Nat) (hk : k < L.length) (x : Bool) (g3 : W0.grownBy W3 none)
    (v' : Value) (o4 : W4.ownsRow lo 4 1 v' ((lvAt L k).length + 1) (bvals (lvAt L k ++ [x]))) (g4 : W3.grownBy W4 (p k).ownBlock) (b4 : v'.ownBlock = (p k).ownBlock ∨ v'.ownBlock = some W3.heap.size) (g : Nat) (hg : vL.ownBlock = some g) :
    Fam lo (hd2 m L.length) (hf vS vL q (upN p k v') S (L.set k (lvAt L k ++ [x]))) (W4.setCell ⟨g, k, none⟩ v') := by
  have F4 := (h.on g3).grow (D' := hd2 m L.length) (.v k) (fun x hx _ => hx) ⟨4, 1, v', (lvAt L k).length + 1, bvals (lvAt L k ++ [x])⟩ (p k).ownBlock (Or.inr ⟨hk, rfl⟩) g4 o4 (fun j hj => by
    rcases b4 with e | e
    · exact Or.inl (e.symm.trans hj)
    · rw [hj] at e; injection e with e; exact Or.inr (by omega))
  have F5 := F4.set .l trivial g (by rw [upR_other _ _ _ _ (by intro e; cases e)]; exact hg) k v'
  refine F5.congr fun y hy => ?_
  cases y with
  | l =>
    rw [upR_same, upR_other _ _ _ _ (by intro e; cases e)]
    show (⟨53, 1, vL, (L.set k _).length, livXs (upN p k v') (L.set k _).length⟩ : Rw) = ⟨53, 1, vL, L.length, (livXs p L.length).set k v'⟩
    rw [List.length_set, livXs_put]
  | s => rw [upR_other _ _ _ _ (by intro e; cases e), upR_other _ _ _ _ (by intro e; cases e)]; rfl
  | v j =>
    rw [upR_other _ _ _ _ (by intro e; cases e)]
    have hj : j < L.length := hy
    show (⟨4, 1, upN p k v' j, (lvAt (L.set k (lvAt L k ++ [x])) j).length, bvals (lvAt (L.set k (lvAt L k ++ [x])) j)⟩ : Rw) = _
    rw [lvAt_set _ _ _ _ hj]
    by_cases e : j = k
    · subst e
      rw [upR_same, if_pos rfl, upN_same, List.length_append]; rfl
    · rw [upR_other _ _ _ _ (by intro e2; injection e2 with e2; exact e e2), if_neg e, upN_other _ _ _ _ e]; rfl
  | b j => rw [upR_other _ _ _ _ (by intro e; cases e), upR_other _ _ _ _ (by intro e; cases e)]; rfl
theorem blk_step {lo : Nat} {vS vL : Value} {q p : Nat → Value} {S : List Sg} {L : List (List Bool)} {V : World} {n : Nat} (h : Fam lo (hd2 S.length n) (hf vS vL q p S L) V) (hlo : lo ≤ V.heap.size) (k : Nat) (hk : k < S.length) (x : Int) (hn : (blAt S k).length ≤ 100) (g : Nat) (hg : vS.ownBlock = some g) :
    ∃ a4 c4 W4, (∀ ty, (Builtin.append_ #[35, 35] ty #[q k, .slice (some ⟨V.heap.size, 0, none⟩) 1 1]).run Try.prog (V.alloc (.cells #[.int .i64 x] 3)) = .ok (.slice a4 ((blAt S k).length + 1) c4) W4) ∧ Below lo V W4 ∧ (∀ X, X < V.heap.size → (q k).ownBlock ≠ some X → W4.heap[X]? = V.heap[X]?) ∧
      Fam lo (hd2 S.length n) (hf vS vL (upN q k (.slice a4 ((blAt S k).length + 1) c4)) p (S.set k ⟨blAt S k ++ [x], ageAt S k⟩) L) (W4.setCell ⟨g, k * 2, none⟩ (.slice a4 ((blAt S k).length + 1) c4)) := by
  obtain ⟨i0, hi, hz0, hz1, hz2⟩ := info_parts infoI
  have hq : V.ownsRow lo 3 1 (q k) (blAt S k).length (ivals (blAt S k)) := h.own (.b k) hk
  have g3 := World.grownBy_alloc V (.cells #[.int .i64 x] 3) none
  have hsz : (V.alloc (.cells #[.int .i64 x] 3)).heap.size = V.heap.size + 1 := heap_size _ _
  obtain ⟨v', W4, r4, o4, g4, b4⟩ := app_any 35 3 i0 _ 1 8 Try.underlying35 hi hz0 hz1 hz2 rfl (by decide) (V.alloc (.cells #[.int .i64 x] 3)) lo (q k) _ _ (hq.alloc _) V.heap.size 0 1 1 [.int .i64 x] rfl (fun j hj => by
    match j, hj with
    | 0, _ => exact box_cell (heap_last _ _) 0) (fun u hu => by
    rw [List.mem_singleton] at hu; subst hu; rfl) (by omega) (by decide) (by omega)
  rw [← ivals_snoc] at o4
  obtain ⟨a4, c4, rfl⟩ := rw_form o4
  refine ⟨a4, c4, W4, r4, ?_, fun X hX hne => ?_, fam_blk h k hk x g3 _ o4 g4 b4 g hg⟩
  · exact (below_of_grown g3 hlo (fun k e => by cases e)).trans (below_of_grown g4 (by omega) (fun k e => (hq.lt k e).1))
  · exact (g4.block X (by omega) (fun e => hne e.symm)).trans (g3.block X hX (by simp))
theorem lv_step {lo : Nat} {vS vL : Value} {q p : Nat → Value} {S : List Sg} {L : List (List Bool)} {V : World} {m : Nat} (h : Fam lo (hd2 m L.length) (hf vS vL q p S L) V) (hlo : lo ≤ V.heap.size) (k : Nat) (hk : k < L.length) (x : Bool) (hn : (lvAt L k).length ≤ 100) (g : Nat) (hg : vL.ownBlock = some g) :
    ∃ a4 c4 W4, (∀ ty, (Builtin.append_ #[53, 53] ty #[p k, .slice (some ⟨V.heap.size, 0, none⟩) 1 1]).run Try.prog (V.alloc (.cells #[.bool x] 4)) = .ok (.slice a4 ((lvAt L k).length + 1) c4) W4) ∧ Below lo V W4 ∧ (∀ X, X < V.heap.size → (p k).ownBlock ≠ some X → W4.heap[X]? = V.heap[X]?) ∧
      Fam lo (hd2 m L.length) (hf vS vL q (upN p k (.slice a4 ((lvAt L k).length + 1) c4)) S (L.set k (lvAt L k ++ [x]))) (W4.setCell ⟨g, k, none⟩ (.slice a4 ((lvAt L k).length + 1) c4)) := by
  obtain ⟨i0, hi, hz0, hz1, hz2⟩ := info_parts infoB
  have hq : V.ownsRow lo 4 1 (p k) (lvAt L k).length (bvals (lvAt L k)) := h.own (.v k) hk
  have g3 := World.grownBy_alloc V (.cells #[.bool x] 4) none
  have hsz : (V.alloc (.cells #[.bool x] 4)).heap.size = V.heap.size + 1 := heap_size _ _
  obtain ⟨v', W4, r4, o4, g4, b4⟩ := app_any 53 4 i0 _ 1 1 Try.underlying53 hi hz0 hz1 hz2 rfl (by decide) (V.alloc (.cells #[.bool x] 4)) lo (p k) _ _ (hq.alloc _) V.heap.size 0 1 1 [.bool x] rfl (fun j hj => by
    match j, hj with
    | 0, _ => exact box_cell (heap_last _ _) 0) (fun u hu => by
    rw [List.mem_singleton] at hu; subst hu; rfl) (by omega) (by decide) (by omega)
  rw [← bvals_snoc] at o4
  obtain ⟨a4, c4, rfl⟩ := rw_form o4
  refine ⟨a4, c4, W4, r4, ?_, fun X hX hne => ?_, fam_lv h k hk x g3 _ o4 g4 b4 g hg⟩
  · exact (below_of_grown g3 hlo (fun k e => by cases e)).trans (below_of_grown g4 (by omega) (fun k e => (hq.lt k e).1))
  · exact (g4.block X (by omega) (fun e => hne e.symm)).trans (g3.block X hX (by simp))
/-- what a write makes of the rows of truth values -/
def offL (L : List (List Bool)) : Option (Nat × Nat) → List (List Bool)
  | some (k, i) => L.set k ((lvAt L k).set i false)
  | none => L
def putS (S : List Sg) (to : Nat) (x : Int) : List Sg := S.set to ⟨blAt S to ++ [x], ageAt S to⟩
def putL (L : List (List Bool)) (to : Nat) : List (List Bool) := L.set to (lvAt L to ++ [true])
/-- what a write makes of a heap -/
def wrH (S : List Sg) (L : List (List Bool)) (x no : Int) : Option (List Sg × List (List Bool)) := (roomH S no).map fun to => (putS S to x, putL (offL L (whereH S L x)) to)
end Go.Proofs.Ytohkhcjdjjlfbaa
namespace Go.Proofs.Ytohkhcjdjjlfbaa
set_option maxRecDepth 100000
open Go
section
variable {P : Program} {ops : Array Oper} {Q : Exit → Act → World → Prop} {md : Region.Mode} {S : World → Prop} {z : Nat}
/-- whatever comes up next; S holds behind each but number z -/
def wpAnyL (P : Program) (md : Region.Mode) (ops : Array Oper) (Q : Exit → Act → World → Prop) (S : World → Prop) (z : Nat) : Nat → Array Bool → Act → World → Prop
  | 0, l, a, w => Region.ready md ops l = [] ∧ Q .normal a w
  | n + 1, l, a, w => (Region.ready md ops l = [] → Q .normal a w) ∧ ∀ j ∈ Region.ready md ops l, wpOp P ops Q j (fun b u => (j ≠ z → S u) ∧ wpAnyL P md ops Q S z n (l.setIfInBounds j true) b u) a w
theorem wpAny_of_L : ∀ (n : Nat) (l : Array Bool) (a : Act) (w : World), wpAnyL P md ops Q S z n l a w → wpAny P md ops Q n l a w
  | 0, _, _, _, h => h
  | n + 1, _, _, _, h => ⟨h.1, fun j hj => wpOp_mono (fun b u x => wpAny_of_L n _ b u x.2) (h.2 j hj)⟩
/-- each of C but number i waits for one of C -/
def waits (md : Region.Mode) (ops : Array Oper) (i : Nat) (C : List Nat) : Bool := C.all fun c => c == i || ((ops[c]?).map fun o => o.after.any fun e => Region.binds md e && C.contains e.on).getD false
def fresh (l : Array Bool) (C : List Nat) : Bool := C.all fun c => !l.getD c true
theorem waits_only {l : Array Bool} {i j : Nat} {C : List Nat} (hC : waits md ops i C = true) (hl : fresh l C = true) (hj : j ∈ Region.ready md ops l) (hm : j ∈ C) : j = i := by
  obtain ⟨_, o, ho, hall⟩ := mem_ready.1 hj
  have h1 := List.all_eq_true.1 hC j hm
  rw [ho] at h1
  simp only [Option.map_some, Option.getD_some, Bool.or_eq_true, beq_iff_eq] at h1
  rcases h1 with h1 | h1
  · exact h1
  · obtain ⟨e, he, h2⟩ := Array.any_eq_true'.1 h1
    rw [Bool.and_eq_true] at h2
    have h3 := hall e he h2.1
    have h4 := List.all_eq_true.1 hl e.on (by simpa using h2.2)
    exfalso
    have h5 : l.getD e.on true = true := by
      unfold Array.getD at h3 ⊢
      split at h3
      · rename_i h; rw [dif_pos h]; exact h3
      · cases h3
    rw [h5] at h4
    cases h4
theorem fresh_set {l : Array Bool} {j : Nat} {C : List Nat} (hl : fresh l C = true) (hj : j ∉ C) : fresh (l.setIfInBounds j true) C = true := by
  refine List.all_eq_true.2 fun c hc => ?_
  have := List.all_eq_true.1 hl c hc
  rw [getD_set_ne true (fun e => hj (by rw [e]; exact hc))]
  exact this
theorem wpAnyL_first {i : Nat} {oi : Oper} {v : Value} {C : List Nat} (hi : ops[i]? = some oi) (hsel : ∀ (j : Nat) (o : Oper) cs b, ops[j]? = some o → o.op ≠ .select cs b) (hQ : ∀ c a w, Q (.panic c) (a.put oi.dst v) w → Q (.panic c) a w)
    (hC : waits md ops i C = true) (hz : z ∈ C) (hiz : i ≠ z) :
    ∀ (n : Nat) (l : Array Bool) (a : Act) (w : World), fresh l C = true →
      (∀ j oj, ops[j]? = some oj → j ≠ i → l.getD j true = false → (∀ e ∈ oj.after, Region.binds md e = true → e.on ≠ i) → oi.apart ops oj = true) →
      i ∈ Region.ready md ops l → YieldsIf P ops S oi v a → S w → wpAnyL P md ops Q S z n (l.setIfInBounds i true) (a.put oi.dst v) w → wpAnyL P md ops Q S z (n + 1) l a w := by
  intro n
  induction n with
  | zero =>
    intro l a w _ _ hr hy hS H
    refine ⟨fun h0 => (by rw [h0] at hr; cases hr), fun j hj => ?_⟩
    rcases Nat.decEq j i with e | e
    · have h1 := ready_mono hj e
      rw [H.1] at h1; cases h1
    · subst e; exact hy.wpOp hi hS ⟨fun _ => hS, H⟩
  | succ n ih =>
    intro l a w hl hfree hr hy hS H
    refine ⟨fun h0 => (by rw [h0] at hr; cases hr), fun j hj => ?_⟩
    rcases Nat.decEq j i with e | e
    · obtain ⟨hun, oj, hoj, hall⟩ := mem_ready.1 hj
      have hjC : j ∉ C := fun hm => e (waits_only hC hl hj hm)
      have hjz : j ≠ z := fun h => hjC (by rw [h]; exact hz)
      have hnot : ∀ x ∈ oj.after, Region.binds md x = true → x.on ≠ i := fun x hx hb he => by
        have h1 := hall x hx hb
        have h0 := (mem_ready.1 hr).1
        rw [he] at h1
        have h2 : l.getD i true = true := by
          unfold Array.getD at h1 ⊢
          split at h1
          · rename_i h; rw [dif_pos h]; exact h1
          · cases h1
        rw [h2] at h0; cases h0
      have H2 := wpOp_putIf hoj (hfree j oj hoj e hun hnot) (fun cs b => hsel i oi cs b hi) (fun cs b => hsel j oj cs b hoj) hQ hy (H.2 j (ready_mono hj e))
      refine wpOp_mono (fun b u x => ?_) H2
      obtain ⟨x1, x2, x3⟩ := x
      refine ⟨x2, ih _ b u (fresh_set hl hjC) (fun k ok hk hki hku hno => hfree k ok hk hki ?_ hno) (ready_mono hr (Ne.symm e)) x1 (x2 hjz) ?_⟩
      · rcases Nat.decEq j k with e2 | e2
        · rw [getD_set_ne true e2] at hku; exact hku
        · subst e2; exact hun
      · rw [Array.setIfInBounds_comm _ _ e]
        exact x3
    · subst e; exact hy.wpOp hi hS ⟨fun _ => hS, H⟩
/-- take number i first: z waits for it -/
theorem wpAnyL_take {i : Nat} {oi : Oper} {v : Value} {C : List Nat} {n : Nat} {l : Array Bool} {a : Act} {w : World} (hi : ops[i]? = some oi) (hs : (Region.noSelect ops && Region.free md ops l i && (Region.ready md ops l).contains i && waits md ops i C && fresh l C && C.contains z && (i != z)) = true)
    (hQ : ∀ c a w, Q (.panic c) (a.put oi.dst v) w → Q (.panic c) a w) (hy : YieldsIf P ops S oi v a) (hS : S w) (h : wpAnyL P md ops Q S z n (l.setIfInBounds i true) (a.put oi.dst v) w) : wpAnyL P md ops Q S z (n + 1) l a w := by
  simp only [Bool.and_eq_true] at hs
  obtain ⟨⟨⟨⟨⟨⟨h1, h2⟩, h3⟩, h4⟩, h5⟩, h6⟩, h7⟩ := hs
  exact wpAnyL_first hi (Region.noSelect_spec h1) hQ h4 (by simpa using h6) (by simpa using h7) n l a w h5 (Region.free_spec hi h2) (by simpa using h3) hy hS h
/-- number i alone may come up -/
theorem wpAnyL_one {i : Nat} {o : Oper} {n : Nat} {l : Array Bool} {a : Act} {w : World} (hr : (Region.ready md ops l == [i]) = true) (ho : ops[i]? = some o)
    (h : ∀ K' : Act → World → Prop, Shut (∀ b u, (i ≠ z → S u) → wpAnyL P md ops Q S z n (l.setIfInBounds i true) b u → K' b u) → if Region.wanted o (yielded ops a.tmps) = true then Oper.wp P o a w K' Q else K' (a.put o.dst undef) w) : wpAnyL P md ops Q S z (n + 1) l a w := by
  have hr' : Region.ready md ops l = [i] := by simpa using hr
  refine ⟨fun h0 => (by rw [hr'] at h0; cases h0), fun j hj => ?_⟩
  rw [hr', List.mem_singleton] at hj
  subst hj
  exact wpOp_step ho (fun K' hK => h K' (fun b u h1 h2 => hK b u ⟨h1, h2⟩))
theorem wpAnyL_done {l : Array Bool} {a : Act} {w : World} {n : Nat} (hr : (Region.ready md ops l).isEmpty = true) (h : Q .normal a w) : wpAnyL P md ops Q S z n l a w := by
  have hr' : Region.ready md ops l = [] := by simpa using hr
  cases n with
  | zero => exact ⟨hr', h⟩
  | succ n => exact ⟨fun _ => h, by rw [hr']; simp⟩
theorem wp_region_L {id : Nat} {a : Act} {w : World} (S : World → Prop) (z : Nat) (hm : P.follows .mixedOrders = true) (h : wpAnyL P .any ops Q S z ops.size (Array.replicate ops.size false) a w.drew) : (Code.region id ops true).wp P Q a w :=
  wp_region_any hm (wpAny_of_L _ _ _ _ h)
end
end Go.Proofs.Ytohkhcjdjjlfbaa
namespace Go.Proofs.Ytohkhcjdjjlfbaa
set_option maxRecDepth 100000
open Go.ChangeShapes Go.WideShapes Go.ChangeAt Go.RowKit G00541
theorem whereH_lt (S : List Sg) (L : List (List Bool)) (x : Int) (k i : Nat) (h : whereH S L x = some (k, i)) : k < S.length ∧ i < (blAt S k).length := by
  unfold whereH at h
  obtain ⟨j, hj, e⟩ := List.exists_of_findSome?_eq_some h
  cases hs : segW S L x j with
  | none => rw [hs] at e; cases e
  | some m =>
    rw [hs] at e
    simp only [Option.map_some, Option.some.injEq, Prod.mk.injEq] at e
    obtain ⟨rfl, rfl⟩ := e
    refine ⟨List.mem_range.1 hj, ?_⟩
    have := List.mem_of_find?_eq_some hs
    exact List.mem_range.1 this
theorem roomH_lt (S : List Sg) (no : Int) (k : Nat) (h : roomH S no = some k) : k < S.length ∧ lenAt S k ≤ 5 := by
  unfold roomH at h
  rcases Option.or_eq_some_iff.1 h with h | ⟨_, h⟩
  · have h1 := List.mem_of_find?_eq_some h
    have h2 := List.find?_some h
    unfold roomP at h2
    rw [decide_eq_true_iff] at h2
    exact ⟨List.mem_range.1 h1, h2.2.2⟩
  · have h1 := List.mem_of_find?_eq_some h
    have h2 := List.find?_some h
    unfold roomQ at h2
    rw [decide_eq_true_iff] at h2
    exact ⟨List.mem_range.1 h1, by omega⟩
/-- what l5Write keeps: its argument's box, its answer's -/
structure WK (lo : Nat) (w : World) (o : Obj) (wr : World) : Prop where
  below : Below lo w wr
  box : wr.heap[w.heap.size]? = some o
  res : wr.heap[w.heap.size + 1]? = some (.cells #[.slice none 0 0, .slice none 0 0] 26)
theorem WK.size {lo : Nat} {w : World} {o : Obj} {wr : World} (h : WK lo w o wr) : w.heap.size + 2 ≤ wr.heap.size := by
  rcases Nat.lt_or_ge (w.heap.size + 1) wr.heap.size with h' | h'
  · omega
  · have := h.res
    rw [Array.getElem?_eq_none h'] at this; cases this
theorem WK.start (lo : Nat) (w : World) (o : Obj) (hlo : lo ≤ w.heap.size) : WK lo w o ((w.alloc o).alloc (.cells #[.slice none 0 0, .slice none 0 0] 26)) := by
  refine ⟨((Below.refl _ _).alloc hlo _).alloc (by simp; omega) _, ?_, heap_last2 _ _ _⟩
  exact heap_mid2 _ _ _
theorem WK.on {lo : Nat} {w : World} {o : Obj} {wr w' : World} (h : WK lo w o wr) (g : Below wr.heap.size wr w') (hlo : lo ≤ w.heap.size) : WK lo w o w' := by
  have := h.size
  exact ⟨h.below.trans (g.mono (by omega)), (g.block _ (by omega)).trans h.box, (g.block _ (by omega)).trans h.res⟩
/-- a step that leaves the blocks below lo and the two boxes -/
theorem WK.step {lo : Nat} {w : World} {o : Obj} {wr w' : World} (h : WK lo w o wr) (g : Below lo wr w') (k0 : w'.heap[w.heap.size]? = wr.heap[w.heap.size]?) (k1 : w'.heap[w.heap.size + 1]? = wr.heap[w.heap.size + 1]?) : WK lo w o w' :=
  ⟨h.below.trans g, k0.trans h.box, k1.trans h.res⟩
theorem WK.set {lo : Nat} {w : World} {o : Obj} {wr : World} (h : WK lo w o wr) (X j : Nat) (u : Value) (hX : lo ≤ X) (hX2 : X < w.heap.size) : WK lo w o (wr.setCell ⟨X, j, none⟩ u) :=
  h.step (setB (Below.refl _ _) _ _ hX _) (keepB _ _ _ _ _ (by omega)) (keepB _ _ _ _ _ (by omega))
theorem rw_apart {w : World} {base : Nat} {e t : TypeId} {size : Nat} {v : Value} {n : Nat} {xs : List Value} (h : w.ownsRow base e size v n xs) {X : Nat} {cs : Array Value} (hX : w.heap[X]? = some (.cells cs t)) (ht : e ≠ t) : v.ownBlock ≠ some X := by
  rcases h.2 with ⟨rfl, _⟩ | ⟨g, cap, cur, rfl, _, hg, _⟩
  · simp [Value.ownBlock]
  · intro e2
    simp only [Value.ownBlock, Option.some.injEq] at e2
    subst e2
    rw [hg] at hX
    injection hX with hX
    injection hX with _ hX
    exact ht hX
theorem Fam.box {lo : Nat} {D : Ix → Prop} {vS vL : Value} {q p : Nat → Value} {S : List Sg} {L : List (List Bool)} {w : World} (h : Fam lo D (hf vS vL q p S L) w) {X : Nat} {cs : Array Value} (hX : w.heap[X]? = some (.cells cs 26)) (j : Nat) (u : Value) : Fam lo D (hf vS vL q p S L) (w.setCell ⟨X, j, none⟩ u) :=
  ⟨fun x hx => rw_other (h.own x hx) X j u (by
    cases x with
    | s => exact rw_apart (h.own .s hx) hX (show 40 ≠ 26 by decide)
    | l => exact rw_apart (h.own .l hx) hX (show 53 ≠ 26 by decide)
    | b i => exact rw_apart (h.own (.b i) hx) hX (show 3 ≠ 26 by decide)
    | v i => exact rw_apart (h.own (.v i) hx) hX (show 4 ≠ 26 by decide)), h.apart⟩
/-- the answer's box is filled -/
theorem WK.fill {lo : Nat} {w : World} {o : Obj} {wr : World} (h : WK lo w o wr) (hlo : lo ≤ w.heap.size) (x y : Value) : Below lo w ((wr.setCell ⟨w.heap.size + 1, 0, none⟩ x).setCell ⟨w.heap.size + 1, 1, none⟩ y) ∧ ((wr.setCell ⟨w.heap.size + 1, 0, none⟩ x).setCell ⟨w.heap.size + 1, 1, none⟩ y).cell? ⟨w.heap.size + 1, 0, none⟩ = some x ∧ ((wr.setCell ⟨w.heap.size + 1, 0, none⟩ x).setCell ⟨w.heap.size + 1, 1, none⟩ y).cell? ⟨w.heap.size + 1, 1, none⟩ = some y := by
  have hres := box_set (box_set h.res 0 x) 1 y
  exact ⟨setB (setB h.below _ _ (by omega) _) _ _ (by omega) _, box_cell hres 0, box_cell hres 1⟩
theorem Fam.fill {lo : Nat} {D : Ix → Prop} {vS vL : Value} {q p : Nat → Value} {S : List Sg} {L : List (List Bool)} {w wr : World} {o : Obj} (h : Fam lo D (hf vS vL q p S L) wr) (hk : WK lo w o wr) (x y : Value) : Fam lo D (hf vS vL q p S L) ((wr.setCell ⟨w.heap.size + 1, 0, none⟩ x).setCell ⟨w.heap.size + 1, 1, none⟩ y) :=
  (h.box hk.res 0 x).box (box_set hk.res 0 x) 1 y
end Go.Proofs.Ytohkhcjdjjlfbaa
