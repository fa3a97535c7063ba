/- Walk of the laws' own copy of a heap. -/
import Derived.Test.YtbomcppkgpfjjaaHLiv
namespace Go.Proofs.Ytbomcppkgpfjjaa
set_option maxRecDepth 100000
open Go.ChangeShapes Go.WideShapes Go.ChangeAt Go.RowKit G00541
theorem SegOwn.keep {lo hi R : Nat} {q : Nat → Option Addr} {c f : Nat → Nat} {S : List Sg} {w : World} (h : SegOwn lo hi R q c f S w) (X i : Nat) (v : Value) (hX : X < lo ∨ hi ≤ X) : SegOwn lo hi R q c f S (w.setCell ⟨X, i, none⟩ v) := by
  have hsz : (w.setCell ⟨X, i, none⟩ v).heap.size = w.heap.size := by simp [World.setCell]
  have r0 := h.r0; have r1 := h.r1
  refine ⟨h.r0, h.r1, by rw [hsz]; exact h.r2, fun i hi => ?_, fun j hj => by rw [World.frozen?_setCell]; exact h.free j hj, fun i hi => ?_, h.apart⟩
  · obtain ⟨h1, h2⟩ := h.cell i hi
    rw [World.cell?_setCell_other _ _ _ _ (block_ne _ _ _ _ (by omega)), World.cell?_setCell_other _ _ _ _ (block_ne _ _ _ _ (by omega))]
    exact ⟨h1, h2⟩
  · rcases h.own i hi with h0 | ⟨h3, h4, h5, h6, h7⟩
    · exact Or.inl h0
    · exact Or.inr ⟨h3, h4, h5, h6, h7.same (by rw [hsz]; exact Nat.le_refl _) (keepB _ _ _ _ _ (by omega))⟩
theorem LivOwn.keep {lo hi R : Nat} {q : Nat → Option Addr} {c f : Nat → Nat} {L : List (List Bool)} {w : World} (h : LivOwn lo hi R q c f L w) (X i : Nat) (v : Value) (hX : X < lo ∨ hi ≤ X) : LivOwn lo hi R q c f L (w.setCell ⟨X, i, none⟩ v) := by
  have hsz : (w.setCell ⟨X, i, none⟩ v).heap.size = w.heap.size := by simp [World.setCell]
  have r0 := h.r0; have r1 := h.r1
  refine ⟨h.r0, h.r1, by rw [hsz]; exact h.r2, fun i hi => ?_, fun j hj => by rw [World.frozen?_setCell]; exact h.free j hj, fun i hi => ?_, h.apart⟩
  · rw [World.cell?_setCell_other _ _ _ _ (block_ne _ _ _ _ (by omega))]
    exact h.cell i hi
  · rcases h.own i hi with h0 | ⟨h3, h4, h5, h6, h7⟩
    · exact Or.inl h0
    · exact Or.inr ⟨h3, h4, h5, h6, h7.same (by rw [hsz]; exact Nat.le_refl _) (keepB _ _ _ _ _ (by omega))⟩
/-- a heap that is owned: its segments' blocks lie ahead of the others -/
def HOw (lo hi RS RL : Nat) (S : List Sg) (L : List (List Bool)) (w : World) : Prop := ∃ mid qS cS fS qL cL fL, lo ≤ mid ∧ SegOwn lo mid RS qS cS fS S w ∧ LivOwn mid hi RL qL cL fL L w
theorem HOw.gs {lo hi RS RL : Nat} {S : List Sg} {L : List (List Bool)} {w : World} (h : HOw lo hi RS RL S L w) : Gs w.heap.size (some ⟨RS, 0, none⟩) S w ∧ Vs w.heap.size (some ⟨RL, 0, none⟩) L w := by
  obtain ⟨_, _, _, _, _, _, _, _, h1, h2⟩ := h
  exact ⟨h1.gs, h2.vs⟩
theorem HOw.on {lo hi RS RL : Nat} {S : List Sg} {L : List (List Bool)} {w w' : World} (h : HOw lo hi RS RL S L w) (g : Below w.heap.size w w') : HOw lo hi RS RL S L w' := by
  obtain ⟨m, a, b, c, d, e, f, h0, h1, h2⟩ := h
  exact ⟨m, a, b, c, d, e, f, h0, h1.on g, h2.on g⟩
set_option maxHeartbeats 2000000 in
theorem toHeap_any (aS aL : Option Addr) (kS kL : Nat) (S : List Sg) (L : List (List Bool)) (w : World) (h1 : S.length ≤ 1048576) (h2 : ∀ k (h : k < S.length), S[k].bl.length ≤ 1048576) (h3 : L.length ≤ 1048576) (h4 : ∀ k (h : k < L.length), L[k].length ≤ 1048576)
    (hG : Gs w.heap.size aS S w) (hV : Vs w.heap.size aL L w) :
    Calls Try.prog 6 #[.agg #[.slice aS S.length kS, .slice aL L.length kL]] w fun e w' => ∃ RS RL, e = .returned (.agg #[.slice (some ⟨RS, 0, none⟩) S.length S.length, .slice (some ⟨RL, 0, none⟩) L.length L.length]) ∧ HOw w.heap.size w'.heap.size RS RL S L w' ∧ Below w.heap.size w w' := by
  have HB : Hid (Below w.heap.size w (((w.alloc (.cells #[.slice aS S.length kS, .slice aL L.length kL] 25)).alloc (.cells #[.slice none 0 0, .slice none 0 0] 32)).alloc (.cells #[.slice none 0 0, .slice none 0 0] 32))) := ((boxB w _).alloc (by simp) _).alloc (by simp; omega) _
  have hsz : (((w.alloc (.cells #[.slice aS S.length kS, .slice aL L.length kL] 25)).alloc (.cells #[.slice none 0 0, .slice none 0 0] 32)).alloc (.cells #[.slice none 0 0, .slice none 0 0] 32)).heap.size = w.heap.size + 3 := by simp
  have y1 : (((w.alloc (.cells #[.slice aS S.length kS, .slice aL L.length kL] 25)).alloc (.cells #[.slice none 0 0, .slice none 0 0] 32)).alloc (.cells #[.slice none 0 0, .slice none 0 0] 32)).cell? ⟨w.heap.size, 1, none⟩ = some (.slice aL L.length kL) := by go_simp
  have y0 : (((w.alloc (.cells #[.slice aS S.length kS, .slice aL L.length kL] 25)).alloc (.cells #[.slice none 0 0, .slice none 0 0] 32)).alloc (.cells #[.slice none 0 0, .slice none 0 0] 32)).cell? ⟨w.heap.size, 0, none⟩ = some (.slice aS S.length kS) := by go_simp
  have r0 : (((w.alloc (.cells #[.slice aS S.length kS, .slice aL L.length kL] 25)).alloc (.cells #[.slice none 0 0, .slice none 0 0] 32)).alloc (.cells #[.slice none 0 0, .slice none 0 0] 32)).cell? ⟨w.heap.size + 1, 0, none⟩ = some (.slice none 0 0) := by go_simp
  have r1 : (((w.alloc (.cells #[.slice aS S.length kS, .slice aL L.length kL] 25)).alloc (.cells #[.slice none 0 0, .slice none 0 0] 32)).alloc (.cells #[.slice none 0 0, .slice none 0 0] 32)).cell? ⟨w.heap.size + 1, 1, none⟩ = some (.slice none 0 0) := by go_simp
  have f0 : (((w.alloc (.cells #[.slice aS S.length kS, .slice aL L.length kL] 25)).alloc (.cells #[.slice none 0 0, .slice none 0 0] 32)).alloc (.cells #[.slice none 0 0, .slice none 0 0] 32)).frozen? ⟨w.heap.size + 1, 0, none⟩ = false := by go_simp
  have f1 : (((w.alloc (.cells #[.slice aS S.length kS, .slice aL L.length kL] 25)).alloc (.cells #[.slice none 0 0, .slice none 0 0] 32)).alloc (.cells #[.slice none 0 0, .slice none 0 0] 32)).frozen? ⟨w.heap.size + 1, 1, none⟩ = false := by go_simp
  have z0 : (((w.alloc (.cells #[.slice aS S.length kS, .slice aL L.length kL] 25)).alloc (.cells #[.slice none 0 0, .slice none 0 0] 32)).alloc (.cells #[.slice none 0 0, .slice none 0 0] 32)).cell? ⟨w.heap.size + 1 + 1, 0, none⟩ = some (.slice none 0 0) := by go_simp
  have z1 : (((w.alloc (.cells #[.slice aS S.length kS, .slice aL L.length kL] 25)).alloc (.cells #[.slice none 0 0, .slice none 0 0] 32)).alloc (.cells #[.slice none 0 0, .slice none 0 0] 32)).cell? ⟨w.heap.size + 1 + 1, 1, none⟩ = some (.slice none 0 0) := by go_simp
  have g0 : (((w.alloc (.cells #[.slice aS S.length kS, .slice aL L.length kL] 25)).alloc (.cells #[.slice none 0 0, .slice none 0 0] 32)).alloc (.cells #[.slice none 0 0, .slice none 0 0] 32)).frozen? ⟨w.heap.size + 1 + 1, 0, none⟩ = false := by go_simp
  have g1 : (((w.alloc (.cells #[.slice aS S.length kS, .slice aL L.length kL] 25)).alloc (.cells #[.slice none 0 0, .slice none 0 0] 32)).alloc (.cells #[.slice none 0 0, .slice none 0 0] 32)).frozen? ⟨w.heap.size + 1 + 1, 1, none⟩ = false := by go_simp
  have HG := hid ((hG.below HB.out).mono HB.out.size)
  have HV := hid hV
  have H2 := hid h2
  have H4 := hid h4
  clear hG hV h2 h4
  generalize hW : ((w.alloc (.cells #[.slice aS S.length kS, .slice aL L.length kL] 25)).alloc (.cells #[.slice none 0 0, .slice none 0 0] 32)).alloc (.cells #[.slice none 0 0, .slice none 0 0] 32) = W at *
  go_enter Try.func6, Try.ntmps6
  go_wp2_with fail
  refine (toSegS_any aS kS S W h1 H2.out HG.out).mono ?_
  rintro e w2 ⟨rfl, ⟨qS, cS, fS, hso⟩, b2⟩
  have HB2 := hid (HB.out.trans (b2.mono HB.out.size))
  have hs2 := b2.size
  have k0 : ∀ R o, R < W.heap.size → w2.cell? ⟨R, o, none⟩ = W.cell? ⟨R, o, none⟩ := fun R o h => b2.cell (p := ⟨R, o, none⟩) h
  have k1 : ∀ R o, R < W.heap.size → w2.frozen? ⟨R, o, none⟩ = W.frozen? ⟨R, o, none⟩ := fun R o h => b2.frozen (p := ⟨R, o, none⟩) h
  rw [← k0 _ _ (by omega)] at y0 y1 r0 r1 z0 z1
  rw [← k1 _ _ (by omega)] at f0 f1 g0 g1
  generalize hR1 : W.heap.size = R1 at *
  have hz : w.heap.size + 3 ≤ R1 := by omega
  clear k0 k1 b2 hW HG HB hsz hR1
  -- the world behind the first store
  have HSO := hid (hso.keep (w.heap.size + 1 + 1) 0 (.slice (some ⟨R1, 0, none⟩) S.length S.length) (Or.inl (by omega)))
  have HBS : Hid (Below w.heap.size w (w2.setCell ⟨w.heap.size + 1 + 1, 0, none⟩ (.slice (some ⟨R1, 0, none⟩) S.length S.length))) := setB HB2.out _ _ (by omega) _
  have y1' : (w2.setCell ⟨w.heap.size + 1 + 1, 0, none⟩ (.slice (some ⟨R1, 0, none⟩) S.length S.length)).cell? ⟨w.heap.size, 1, none⟩ = some (.slice aL L.length kL) := by
    rw [World.cell?_setCell_other _ _ _ _ (block_ne _ _ _ _ (by omega))]; exact y1
  have r0' : (w2.setCell ⟨w.heap.size + 1 + 1, 0, none⟩ (.slice (some ⟨R1, 0, none⟩) S.length S.length)).cell? ⟨w.heap.size + 1, 0, none⟩ = some (.slice none 0 0) := by
    rw [World.cell?_setCell_other _ _ _ _ (block_ne _ _ _ _ (by omega))]; exact r0
  have r1' : (w2.setCell ⟨w.heap.size + 1 + 1, 0, none⟩ (.slice (some ⟨R1, 0, none⟩) S.length S.length)).cell? ⟨w.heap.size + 1, 1, none⟩ = some (.slice none 0 0) := by
    rw [World.cell?_setCell_other _ _ _ _ (block_ne _ _ _ _ (by omega))]; exact r1
  have z0' : (w2.setCell ⟨w.heap.size + 1 + 1, 0, none⟩ (.slice (some ⟨R1, 0, none⟩) S.length S.length)).cell? ⟨w.heap.size + 1 + 1, 0, none⟩ = some (.slice (some ⟨R1, 0, none⟩) S.length S.length) := World.cell?_setCell_same _ _ _ z0
  have z1' : (w2.setCell ⟨w.heap.size + 1 + 1, 0, none⟩ (.slice (some ⟨R1, 0, none⟩) S.length S.length)).cell? ⟨w.heap.size + 1 + 1, 1, none⟩ = some (.slice none 0 0) := by
    rw [World.cell?_setCell_other _ _ _ _ (off_ne _ _ _ (by omega))]; exact z1
  have f0' : (w2.setCell ⟨w.heap.size + 1 + 1, 0, none⟩ (.slice (some ⟨R1, 0, none⟩) S.length S.length)).frozen? ⟨w.heap.size + 1, 0, none⟩ = false := by rw [World.frozen?_setCell]; exact f0
  have f1' : (w2.setCell ⟨w.heap.size + 1 + 1, 0, none⟩ (.slice (some ⟨R1, 0, none⟩) S.length S.length)).frozen? ⟨w.heap.size + 1, 1, none⟩ = false := by rw [World.frozen?_setCell]; exact f1
  have g1' : (w2.setCell ⟨w.heap.size + 1 + 1, 0, none⟩ (.slice (some ⟨R1, 0, none⟩) S.length S.length)).frozen? ⟨w.heap.size + 1 + 1, 1, none⟩ = false := by rw [World.frozen?_setCell]; exact g1
  have hss : (w2.setCell ⟨w.heap.size + 1 + 1, 0, none⟩ (.slice (some ⟨R1, 0, none⟩) S.length S.length)).heap.size = w2.heap.size := by simp [World.setCell]
  clear hso
  generalize hW2 : w2.setCell ⟨w.heap.size + 1 + 1, 0, none⟩ (.slice (some ⟨R1, 0, none⟩) S.length S.length) = W2 at *
  have hss1 : W2.heap.size ≤ w2.heap.size := by omega
  have hss2 : w2.heap.size ≤ W2.heap.size := by omega
  clear hss
  go_wp2_with fail
  clear y0 y1 r0 r1 z1 f0 f1 g1 z0 g0 hW2 HB2
  refine (toBoolSS_any aL kL L W2 h3 H4.out ((HV.out.below HBS.out).mono HBS.out.size)).mono ?_
  rintro e w3 ⟨rfl, ⟨qL, cL, fL, hlo⟩, b3⟩
  have hs3 := b3.size
  have HB3 := hid (HBS.out.trans (b3.mono HBS.out.size))
  have k0 : ∀ R o, R < W2.heap.size → w3.cell? ⟨R, o, none⟩ = W2.cell? ⟨R, o, none⟩ := fun R o h => b3.cell (p := ⟨R, o, none⟩) h
  have k1 : ∀ R o, R < W2.heap.size → w3.frozen? ⟨R, o, none⟩ = W2.frozen? ⟨R, o, none⟩ := fun R o h => b3.frozen (p := ⟨R, o, none⟩) h
  rw [← k0 _ _ (by omega)] at r0' r1' z0' z1'
  rw [← k1 _ _ (by omega)] at f0' f1' g1'
  have HSO3 := hid (HSO.out.on b3)
  generalize hR2 : W2.heap.size = R2 at *
  have HF : Hid (HOw w.heap.size ((((w3.setCell ⟨w.heap.size + 1 + 1, 1, none⟩ (.slice (some ⟨R2, 0, none⟩) L.length L.length)).setCell ⟨w.heap.size + 1, 0, none⟩ (.slice (some ⟨R1, 0, none⟩) S.length S.length)).setCell ⟨w.heap.size + 1, 1, none⟩ (.slice (some ⟨R2, 0, none⟩) L.length L.length))).heap.size R1 R2 S L ((((w3.setCell ⟨w.heap.size + 1 + 1, 1, none⟩ (.slice (some ⟨R2, 0, none⟩) L.length L.length)).setCell ⟨w.heap.size + 1, 0, none⟩ (.slice (some ⟨R1, 0, none⟩) S.length S.length)).setCell ⟨w.heap.size + 1, 1, none⟩ (.slice (some ⟨R2, 0, none⟩) L.length L.length)))) := by
    have e : ((((w3.setCell ⟨w.heap.size + 1 + 1, 1, none⟩ (.slice (some ⟨R2, 0, none⟩) L.length L.length)).setCell ⟨w.heap.size + 1, 0, none⟩ (.slice (some ⟨R1, 0, none⟩) S.length S.length)).setCell ⟨w.heap.size + 1, 1, none⟩ (.slice (some ⟨R2, 0, none⟩) L.length L.length))).heap.size = w3.heap.size := by simp [World.setCell]
    unfold Hid
    rw [e]
    have s1 := ((HSO3.out.keep (w.heap.size + 1 + 1) 1 (.slice (some ⟨R2, 0, none⟩) L.length L.length) (Or.inl (by omega))).keep (w.heap.size + 1) 0 (.slice (some ⟨R1, 0, none⟩) S.length S.length) (Or.inl (by omega))).keep (w.heap.size + 1) 1 (.slice (some ⟨R2, 0, none⟩) L.length L.length) (Or.inl (by omega))
    have s2 := ((hlo.keep (w.heap.size + 1 + 1) 1 (.slice (some ⟨R2, 0, none⟩) L.length L.length) (Or.inl (by omega))).keep (w.heap.size + 1) 0 (.slice (some ⟨R1, 0, none⟩) S.length S.length) (Or.inl (by omega))).keep (w.heap.size + 1) 1 (.slice (some ⟨R2, 0, none⟩) L.length L.length) (Or.inl (by omega))
    refine ⟨R2, qS, cS, fS, qL, cL, fL, by omega, ?_, s2⟩
    have hw2 : w2.heap.size = R2 := by omega
    rw [hw2] at s1
    exact ⟨by have := s1.r0; omega, s1.r1, s1.r2, s1.cell, s1.free, fun i hi => (s1.own i hi).imp id (fun h => ⟨by have := h.1; omega, h.2⟩), s1.apart⟩
  have HBF : Hid (Below w.heap.size w ((((w3.setCell ⟨w.heap.size + 1 + 1, 1, none⟩ (.slice (some ⟨R2, 0, none⟩) L.length L.length)).setCell ⟨w.heap.size + 1, 0, none⟩ (.slice (some ⟨R1, 0, none⟩) S.length S.length)).setCell ⟨w.heap.size + 1, 1, none⟩ (.slice (some ⟨R2, 0, none⟩) L.length L.length)))) := setB (setB (setB HB3.out _ _ (by omega) _) _ _ (by omega) _) _ _ (by omega) _
  have x1 : ((((w3.setCell ⟨w.heap.size + 1 + 1, 1, none⟩ (.slice (some ⟨R2, 0, none⟩) L.length L.length)).setCell ⟨w.heap.size + 1, 0, none⟩ (.slice (some ⟨R1, 0, none⟩) S.length S.length)).setCell ⟨w.heap.size + 1, 1, none⟩ (.slice (some ⟨R2, 0, none⟩) L.length L.length))).cell? ⟨w.heap.size + 1, 1, none⟩ = some (.slice (some ⟨R2, 0, none⟩) L.length L.length) := by
    refine World.cell?_setCell_same _ _ _ (?_ : _ = some (.slice none 0 0))
    rw [World.cell?_setCell_other _ _ _ _ (off_ne _ _ _ (by omega)), World.cell?_setCell_other _ _ _ _ (block_ne _ _ _ _ (by omega))]; exact r1'
  have x0 : ((((w3.setCell ⟨w.heap.size + 1 + 1, 1, none⟩ (.slice (some ⟨R2, 0, none⟩) L.length L.length)).setCell ⟨w.heap.size + 1, 0, none⟩ (.slice (some ⟨R1, 0, none⟩) S.length S.length)).setCell ⟨w.heap.size + 1, 1, none⟩ (.slice (some ⟨R2, 0, none⟩) L.length L.length))).cell? ⟨w.heap.size + 1, 0, none⟩ = some (.slice (some ⟨R1, 0, none⟩) S.length S.length) := by
    rw [World.cell?_setCell_other _ _ _ _ (off_ne _ _ _ (by omega))]
    refine World.cell?_setCell_same _ _ _ (?_ : _ = some (.slice none 0 0))
    rw [World.cell?_setCell_other _ _ _ _ (block_ne _ _ _ _ (by omega))]; exact r0'
  clear k0 k1 b3 hlo HSO HSO3 HV hR2
  go_wp2_with fail
  generalize (((w3.setCell ⟨w.heap.size + 1 + 1, 1, none⟩ (.slice (some ⟨R2, 0, none⟩) L.length L.length)).setCell ⟨w.heap.size + 1, 0, none⟩ (.slice (some ⟨R1, 0, none⟩) S.length S.length)).setCell ⟨w.heap.size + 1, 1, none⟩ (.slice (some ⟨R2, 0, none⟩) L.length L.length)) = X at *
  refine bodyPost_ret (v := .agg #[.slice (some ⟨R1, 0, none⟩) S.length S.length, .slice (some ⟨R2, 0, none⟩) L.length L.length]) (by simp [results, Try.results6, go_sem, x0, x1]) rfl ⟨R1, R2, rfl, HF.out, HBF.out⟩
end Go.Proofs.Ytbomcppkgpfjjaa
