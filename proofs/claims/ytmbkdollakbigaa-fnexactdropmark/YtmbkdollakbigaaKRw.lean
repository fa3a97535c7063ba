/- A row of layers in one block, none of whose own rows lies in that block: a layer put. -/
import Derived.Test.YtmbkdollakbigaaKZc
namespace Go.Proofs.Ytmbkdollakbigaa
set_option maxRecDepth 100000
open Go Go.ChangeShapes Go.WideShapes Go.ChangeAt Go.RowKit
/-- a list's place is not in block R -/
def OffR (R n : Nat) (p : Option Addr) : Prop := 0 < n → ∀ o f, p ≠ some ⟨R, o, f⟩
theorem gsl_off {B s R : Nat} {a : Option Addr} {rows : List (List Value)} {w w' : World} (h : GSl B s a rows w) (ho : OffR R rows.length a) (hb : ∀ X, X < B → X ≠ R → w'.heap[X]? = w.heap[X]?) : GSl B s a rows w' := ⟨fun h0 => by
  obtain ⟨b, off, e, hB, hc⟩ := GSl.cell h h0
  have hne : b ≠ R := fun e2 => ho h0 off none (by rw [e, e2])
  refine ⟨b, off, e, hB, fun i hi j hj => ?_⟩
  have : ∀ o, w'.cell? ⟨b, o, none⟩ = w.cell? ⟨b, o, none⟩ := fun o => by unfold World.cell?; simp only [hb b hB hne]
  rw [this]
  exact hc i hi j hj⟩
theorem is_off {B R : Nat} {a : Option Addr} {l : List Int} {w w' : World} (h : Is B a l w) (ho : OffR R l.length a) (hb : ∀ X, X < B → X ≠ R → w'.heap[X]? = w.heap[X]?) : Is B a l w' := gsl_off h (by simpa using ho) hb
theorem ss_off {B R : Nat} {a : Option Addr} {l : List ByteArray} {w w' : World} (h : Ss B a l w) (ho : OffR R l.length a) (hb : ∀ X, X < B → X ≠ R → w'.heap[X]? = w.heap[X]?) : Ss B a l w' := gsl_off h (by simpa using ho) hb
theorem grow3 {R : Nat} {rows : List (List Value)} {w : World} (h : GRow R 3 rows w) (k : Nat) (hk : k < rows.length) (u0 u1 u2 : Value) : GRow R 3 (rows.set k [u0, u1, u2]) (((w.setCell ⟨R, k * 3, none⟩ u0).setCell ⟨R, k * 3 + 1, none⟩ u1).setCell ⟨R, k * 3 + 2, none⟩ u2) := by
  have h0 := h.set k 0 hk (by decide) u0
  have h1 := h0.set k 1 (by simpa using hk) (by decide) u1
  have h2 := h1.set k 2 (by simpa using hk) (by decide) u2
  obtain ⟨a, b, c, hr⟩ : ∃ a b c, rows[k] = [a, b, c] := by
    have := h.wide k hk
    match hr : rows[k], this with
    | [a, b, c], _ => exact ⟨a, b, c, rfl⟩
  simpa [hr] using h2
structure LyFit (R : Nat) (x : Ly × LA) (w : World) : Prop where
  bl : Is w.heap.size x.2.p x.1.bl w
  dt : Ss w.heap.size x.2.q x.1.dt w
  ob : OffR R x.1.bl.length x.2.p
  od : OffR R x.1.dt.length x.2.q
  cb : x.1.bl.length ≤ x.2.c
  cd : x.1.dt.length ≤ x.2.d
structure RowK (lo R : Nat) (L : List (Ly × LA)) (w : World) : Prop where
  r0 : lo ≤ R
  row : GRow R 3 (L.map kcells) w
  fit : ∀ i (h : i < L.length), LyFit R L[i] w
theorem LyFit.on {R : Nat} {x : Ly × LA} {w w' : World} (h : LyFit R x w) (g : Below w.heap.size w w') : LyFit R x w' :=
  ⟨(h.bl.below g).mono g.size, (h.dt.below g).mono g.size, h.ob, h.od, h.cb, h.cd⟩
theorem LyFit.off {R : Nat} {x : Ly × LA} {w w' : World} (h : LyFit R x w) (hs : w'.heap.size = w.heap.size) (hb : ∀ X, X ≠ R → w'.heap[X]? = w.heap[X]?) : LyFit R x w' :=
  ⟨by rw [hs]; exact is_off h.bl h.ob (fun X _ hX => hb X hX), by rw [hs]; exact ss_off h.dt h.od (fun X _ hX => hb X hX), h.ob, h.od, h.cb, h.cd⟩
theorem RowK.on {lo R : Nat} {L : List (Ly × LA)} {w w' : World} (h : RowK lo R L w) (g : Below w.heap.size w w') : RowK lo R L w' :=
  ⟨h.r0, h.row.same g.size (g.block R h.row.lt), fun i hi => (h.fit i hi).on g⟩
/-- a layer's three cells -/
theorem RowK.cell {lo R : Nat} {L : List (Ly × LA)} {w : World} (h : RowK lo R L w) (i : Nat) (hi : i < L.length) :
    w.cell? ⟨R, i * 3, none⟩ = some (.int .i64 L[i].1.mark) ∧ w.cell? ⟨R, i * 3 + 1, none⟩ = some (.slice L[i].2.p L[i].1.bl.length L[i].2.c) ∧ w.cell? ⟨R, i * 3 + 2, none⟩ = some (.slice L[i].2.q L[i].1.dt.length L[i].2.d) := by
  have k0 := h.row.cell i (by simpa using hi) 0 (by decide)
  have k1 := h.row.cell i (by simpa using hi) 1 (by decide)
  have k2 := h.row.cell i (by simpa using hi) 2 (by decide)
  rw [List.getElem_map] at k0 k1 k2
  exact ⟨k0, k1, k2⟩
theorem RowK.free {lo R : Nat} {L : List (Ly × LA)} {w : World} (h : RowK lo R L w) (i : Nat) (hi : i < L.length) :
    w.frozen? ⟨R, i * 3, none⟩ = false ∧ w.frozen? ⟨R, i * 3 + 1, none⟩ = false ∧ w.frozen? ⟨R, i * 3 + 2, none⟩ = false := by
  have hl : (L.map kcells).length = L.length := List.length_map _
  exact ⟨h.row.free _ (by omega), h.row.free _ (by omega), h.row.free _ (by omega)⟩
theorem RowK.ys {lo R : Nat} {L : List (Ly × LA)} {w : World} (h : RowK lo R L w) : Ys w.heap.size (some ⟨R, 0, none⟩) (L.map (·.1)) w := fun _ => by
  refine ⟨R, 0, rfl, h.row.lt, fun i hi => ?_⟩
  have hi' : i < L.length := by simpa using hi
  obtain ⟨k0, k1, k2⟩ := h.cell i hi'
  have f := h.fit i hi'
  rw [List.getElem_map]
  exact ⟨L[i].2.p, L[i].2.c, L[i].2.q, L[i].2.d, by rw [Nat.zero_add]; exact k0, by rw [Nat.zero_add]; exact k1, by rw [Nat.zero_add]; exact k2, f.bl, f.dt⟩
/-- one layer put in place of another -/
theorem RowK.put {lo R : Nat} {L : List (Ly × LA)} {w : World} (h : RowK lo R L w) (k : Nat) (hk : k < L.length) (x : Ly × LA) (hx : LyFit R x w) :
    RowK lo R (L.set k x) (((w.setCell ⟨R, k * 3, none⟩ (.int .i64 x.1.mark)).setCell ⟨R, k * 3 + 1, none⟩ (.slice x.2.p x.1.bl.length x.2.c)).setCell ⟨R, k * 3 + 2, none⟩ (.slice x.2.q x.1.dt.length x.2.d)) := by
  have hs : (((w.setCell ⟨R, k * 3, none⟩ (.int .i64 x.1.mark)).setCell ⟨R, k * 3 + 1, none⟩ (.slice x.2.p x.1.bl.length x.2.c)).setCell ⟨R, k * 3 + 2, none⟩ (.slice x.2.q x.1.dt.length x.2.d)).heap.size = w.heap.size := by simp [World.setCell]
  have hb : ∀ X, X ≠ R → (((w.setCell ⟨R, k * 3, none⟩ (.int .i64 x.1.mark)).setCell ⟨R, k * 3 + 1, none⟩ (.slice x.2.p x.1.bl.length x.2.c)).setCell ⟨R, k * 3 + 2, none⟩ (.slice x.2.q x.1.dt.length x.2.d)).heap[X]? = w.heap[X]? := fun X hX => (keepB _ _ _ _ _ hX).trans ((keepB _ _ _ _ _ hX).trans (keepB _ _ _ _ _ hX))
  refine ⟨h.r0, ?_, fun i hi => ?_⟩
  · have h3 := grow3 h.row k (by simpa using hk) (.int .i64 x.1.mark) (.slice x.2.p x.1.bl.length x.2.c) (.slice x.2.q x.1.dt.length x.2.d)
    rw [List.map_set]
    exact h3
  · rw [List.getElem_set]
    split
    · exact hx.off hs hb
    · exact (h.fit i (by simpa using hi)).off hs hb
theorem KG.rowK {lo R n c : Nat} {L : List (Ly × LA)} {w : World} (h : KG lo (.slice (some ⟨R, 0, none⟩) n c) L w) (hc : CapL L) : RowK lo R L w := by
  obtain ⟨R', cap, e, hR, hrow⟩ := GRow.ofOwns (rows := L.map kcells) (kwide L) h.row (by simp) (fun e => by injection e with e1 e2 e3; cases e1)
  injection e with e1 e2 e3
  injection e1 with e1
  injection e1 with e1 _ _
  subst e1
  refine ⟨hR, hrow, fun i hi => ?_⟩
  obtain ⟨c1, c2⟩ := hc L[i] (List.getElem_mem hi)
  have hl1 : L[i].1.bl ≠ [] → 0 < L[i].1.bl.length := fun e => List.length_pos_iff.2 e
  refine ⟨?_, ?_, ?_, ?_, c1, c2⟩
  · rcases h.ownB i hi with h0 | ⟨_, h4, _, h6, h7⟩
    · rw [h0]; exact ⟨fun h0 => absurd h0 (by simp)⟩
    · rw [h6]; exact h7.sl h4
  · rcases h.ownD i hi with h0 | ⟨_, h4, _, h6, h7⟩
    · rw [h0]; exact ⟨fun h0 => absurd h0 (by simp)⟩
    · rw [h6]; exact h7.sl h4
  · intro g o f e
    rcases h.ownB i hi with h0 | ⟨_, h4, h5, h6, h7⟩
    · rw [h0] at g; exact absurd g (by simp)
    · rw [h6] at e; injection e with e; injection e with e _ _; exact h5 (by rw [e]; rfl)
  · intro g o f e
    rcases h.ownD i hi with h0 | ⟨_, h4, h5, h6, h7⟩
    · rw [h0] at g; exact absurd g (by simp)
    · rw [h6] at e; injection e with e; injection e with e _ _; exact h5 (by rw [e]; rfl)
end Go.Proofs.Ytmbkdollakbigaa
