/- Rows laid and a layer laid: with the rows' caps. -/
import Derived.Test.YtmbkdollakbigaaKZ
namespace Go.Proofs.Ytmbkdollakbigaa
set_option maxRecDepth 100000
open Go Go.ChangeShapes Go.WideShapes Go.ChangeAt Go.RowKit
/-- no row of a layer is longer than what it has room for -/
def CapL (L : List (Ly × LA)) : Prop := ∀ x ∈ L, x.1.bl.length ≤ x.2.c ∧ x.1.dt.length ≤ x.2.d
theorem CapL.snoc {L : List (Ly × LA)} (h : CapL L) (y : Ly × LA) (g : y.1.bl.length ≤ y.2.c ∧ y.1.dt.length ≤ y.2.d) : CapL (L ++ [y]) := fun x hx => by
  rcases List.mem_append.1 hx with h1 | h1
  · exact h x h1
  · rw [List.mem_singleton] at h1; subst h1; exact g
theorem two_appsC (U : World) (lo XI XT : Nat) (p q : Option Addr) (c d : Nat) (bl : List Int) (dt : List ByteArray) (hI : U.ownsRow lo 3 1 (.slice (some ⟨XI, 0, none⟩) 0 0) 0 []) (hT : U.ownsRow lo 9 1 (.slice (some ⟨XT, 0, none⟩) 0 0) 0 []) (hX : XI ≠ XT) (rI : Is U.heap.size p bl U) (rT : Ss lo q dt U) (n1 : bl.length ≤ 9000) (n2 : dt.length ≤ 9000) (hlo : lo ≤ U.heap.size) :
    ∃ a1 c1 WA a2 c2 WZ, (∀ ty, (Builtin.append_ #[26, 26] ty #[.slice (some ⟨XI, 0, none⟩) 0 0, .slice p bl.length c]).run Try.prog U = .ok (.slice a1 bl.length c1) WA) ∧ (∀ ty, (Builtin.append_ #[62, 62] ty #[.slice (some ⟨XT, 0, none⟩) 0 0, .slice q dt.length d]).run Try.prog WA = .ok (.slice a2 dt.length c2) WZ) ∧ (OwnZ lo WZ.heap.size a1 a2 bl dt WZ ∧ bl.length ≤ c1 ∧ dt.length ≤ c2) ∧ Below lo U WA ∧ Below lo U WZ := by
  obtain ⟨a1, c1, WA, r1, o1, g1, k1⟩ := app_int_own U lo XI p c bl hI rI n1 hlo
  have hXI := hI.lt XI rfl
  have hXT := hT.lt XT rfl
  have b1 : Below lo U WA := below_of_grown g1 hlo (fun k e => by injection e with e; omega)
  have hs1 := g1.size
  have hT1 : WA.ownsRow lo 9 1 (.slice (some ⟨XT, 0, none⟩) 0 0) 0 [] := rw_keep hT (fun k hk => by
    have hk' : some XT = some k := hk
    injection hk' with hk'
    exact g1.block k (by omega) (fun e => by injection e with e; omega))
  obtain ⟨a2, c2, WZ, r2, o2, g2, k2⟩ := app_str_own WA lo XT q d dt hT1 ((rT.below b1).mono (by omega)) n2 (by omega)
  have b2 : Below lo WA WZ := below_of_grown g2 (by omega) (fun k e => by injection e with e; omega)
  have o1' : WZ.ownsRow lo 3 1 (.slice a1 bl.length c1) bl.length (ivals bl) := rw_keep o1 (fun k hk => g2.block k (o1.lt k hk).2 (fun e => by injection e with e; rcases k1 k hk with h | h <;> omega))
  refine ⟨a1, c1, WA, a2, c2, WZ, r1, r2, ⟨ownZ_of o1' o2 (fun g h1 h2 => ?_), (rw_cap o1').1, (rw_cap o2).1⟩, b1, b1.trans b2⟩
  have h3 := (o1.lt g h1).2
  rcases k1 g h1 with e1 | e1 <;> rcases k2 g h2 with e2 | e2 <;> omega
theorem two_lateC (V : World) (p q : Option Addr) (c d : Nat) (bl : List Int) (dt : List ByteArray) (rI : Is V.heap.size p bl V) (rT : Ss V.heap.size q dt V) (n1 : bl.length ≤ 9000) (n2 : dt.length ≤ 9000) :
    ∃ a1 c1 WA a2 c2 WZ, (∀ ty, (Builtin.append_ #[26, 26] ty #[.slice (some ⟨V.heap.size, 0, none⟩) 0 0, .slice p bl.length c]).run Try.prog (V.alloc (.cells #[] 3)) = .ok (.slice a1 bl.length c1) WA) ∧ (∀ ty, (Builtin.append_ #[62, 62] ty #[.slice (some ⟨WA.heap.size, 0, none⟩) 0 0, .slice q dt.length d]).run Try.prog (WA.alloc (.cells #[] 9)) = .ok (.slice a2 dt.length c2) WZ) ∧ (OwnZ V.heap.size WZ.heap.size a1 a2 bl dt WZ ∧ bl.length ≤ c1 ∧ dt.length ≤ c2) ∧ Below V.heap.size V WA ∧ Below V.heap.size V WZ := by
  have b0 := boxB V (.cells #[] 3)
  have hz0 : (V.alloc (.cells #[] 3)).heap.size = V.heap.size + 1 := heap_size _ _
  obtain ⟨a1, c1, WA, r1, o1, g1, k1⟩ := app_int_own (V.alloc (.cells #[] 3)) V.heap.size V.heap.size p c bl (World.ownsRow_made V #[] 0 (Nat.le_refl _) (by decide) rfl) ((rI.below b0).mono b0.size) n1 (by omega)
  have hs1 := g1.size
  have b1 : Below V.heap.size V WA := b0.trans (below_of_grown g1 (by omega) (fun k e => by injection e with e; omega))
  have b2 := boxB WA (.cells #[] 9)
  have hz2 : (WA.alloc (.cells #[] 9)).heap.size = WA.heap.size + 1 := heap_size _ _
  have b12 := b1.trans (b2.mono b1.size)
  have hmade : (WA.alloc (.cells #[] 9)).ownsRow V.heap.size 9 1 (.slice (some ⟨WA.heap.size, 0, none⟩) 0 0) 0 [] := rw_mono (World.ownsRow_made WA #[] 0 (Nat.le_refl _) (by decide) rfl) (by omega)
  obtain ⟨a2, c2, WZ, r2, o2, g2, k2⟩ := app_str_own (WA.alloc (.cells #[] 9)) V.heap.size WA.heap.size q d dt hmade ((rT.below b12).mono b12.size) n2 (by omega)
  have b3 : Below V.heap.size (WA.alloc (.cells #[] 9)) WZ := below_of_grown g2 (by omega) (fun k e => by injection e with e; omega)
  have o1' : WZ.ownsRow V.heap.size 3 1 (.slice a1 bl.length c1) bl.length (ivals bl) := rw_keep (rw_below o1 b2) (fun k hk => g2.block k (by have := (o1.lt k hk).2; omega) (fun e => by injection e with e; have := (o1.lt k hk).2; omega))
  refine ⟨a1, c1, WA, a2, c2, WZ, r1, r2, ⟨ownZ_of o1' o2 (fun g h1 h2 => ?_), (rw_cap o1').1, (rw_cap o2).1⟩, b1, b12.trans b3⟩
  have h3 := (o1.lt g h1).2
  rcases k2 g h2 with e2 | e2 <;> omega
theorem KG.growZC {lo : Nat} {v : Value} {L : List (Ly × LA)} {w w1 : World} (h : KG lo v L w) (hlo : lo ≤ w.heap.size) (g : Below w.heap.size w w1) (X cX : Nat) (m : Int) (p q : Option Addr) (bl : List Int) (dt : List ByteArray) (c d : Nat)
    (hX : w1.heap[X]? = some (.cells #[.int .i64 m, .slice p bl.length c, .slice q dt.length d] 64)) (ho : OwnZ w.heap.size w1.heap.size p q bl dt w1) (hn : L.length + 1 ≤ 10000) :
    ∃ v' w' a, (∀ ty, (Builtin.append_ #[29, 29] ty #[v, .slice (some ⟨X, 0, none⟩) 1 cX]).run Try.prog w1 = .ok v' w') ∧ (KG lo v' (L ++ [(⟨m, bl, dt⟩, a)]) w' ∧ a.c = c ∧ a.d = d) ∧ w1.grownBy w' v.ownBlock ∧ Below lo w1 w' := by
  have h1 := h.on g
  have hgs := g.size
  obtain ⟨v', w', r, o, gr, nb⟩ := app_ly w1 lo v L.length (kvals L) h1.row X cX m p bl.length c q dt.length d hX hn (by omega)
  obtain ⟨F, G, hF, hG, hFG⟩ := ho
  have hvb : ∀ Y, v.ownBlock = some Y → Y < w.heap.size := fun Y e => (h.row.lt Y e).2
  have hkb : ∀ Y, Y < w1.heap.size → v.ownBlock ≠ some Y → w'.heap[Y]? = w1.heap[Y]? := fun Y hY hne => gr.block Y hY (fun e => hne e.symm)
  have hnb : ∀ Y, Y < w1.heap.size → v.ownBlock ≠ some Y → v'.ownBlock ≠ some Y := fun Y hY hne e => by
    rcases nb with e2 | e2
    · exact hne (by rw [← e2]; exact e)
    · rw [e2] at e; injection e with e; omega
  have hsz := gr.size
  refine ⟨v', w', ⟨p, c, F, q, d, G⟩, r, ⟨?_, rfl, rfl⟩, gr, below_of_grown gr (by omega) (fun k hk => (h.row.lt k hk).1)⟩
  have hvF : w.heap.size ≤ F → v.ownBlock ≠ some F := fun h9 e => by have := hvb F e; omega
  have hvG : w.heap.size ≤ G → v.ownBlock ≠ some G := fun h9 e => by have := hvb G e; omega
  refine ⟨by rw [List.length_append, kvals_snoc]; exact o, fun i hi => ?_, fun i hi => ?_, fun i j hi hj hij => ?_, fun i j hi hj hij => ?_, fun i j hi hj => ?_⟩
  · rcases snoc_at L (⟨m, bl, dt⟩, ⟨p, c, F, q, d, G⟩) i hi with ⟨hi', e⟩ | ⟨_, e⟩
    · rw [e]
      exact (h1.ownB i hi').imp id (fun ⟨a1, a2, a3, a4, a5⟩ => ⟨a1, by omega, hnb _ a2 a3, a4, a5.same hsz (hkb _ a2 a3)⟩)
    · rw [e]
      rcases hF with h0 | ⟨f1, f2, f3, f4⟩
      · exact Or.inl h0
      · exact Or.inr ⟨by show lo ≤ F; omega, by show F < _; omega, hnb F (by omega) (hvF f1), f3, f4.same hsz (hkb F (by omega) (hvF f1))⟩
  · rcases snoc_at L (⟨m, bl, dt⟩, ⟨p, c, F, q, d, G⟩) i hi with ⟨hi', e⟩ | ⟨_, e⟩
    · rw [e]
      exact (h1.ownD i hi').imp id (fun ⟨a1, a2, a3, a4, a5⟩ => ⟨a1, by omega, hnb _ a2 a3, a4, a5.same hsz (hkb _ a2 a3)⟩)
    · rw [e]
      rcases hG with h0 | ⟨f1, f2, f3, f4⟩
      · exact Or.inl h0
      · exact Or.inr ⟨by show lo ≤ G; omega, by show G < _; omega, hnb G (by omega) (hvG f1), f3, f4.same hsz (hkb G (by omega) (hvG f1))⟩
  · rcases snoc_at L (⟨m, bl, dt⟩, ⟨p, c, F, q, d, G⟩) i hi with ⟨hi', e⟩ | ⟨ei, e⟩ <;> rcases snoc_at L (⟨m, bl, dt⟩, ⟨p, c, F, q, d, G⟩) j hj with ⟨hj', e'⟩ | ⟨ej, e'⟩ <;> rw [e, e'] <;> intro x1 x2
    · exact h.bb i j hi' hj' hij x1 x2
    · obtain ⟨_, a2, _⟩ := (h.ownB i hi').resolve_left x1
      obtain ⟨f1, _⟩ := hF.resolve_left x2
      show L[i].2.f ≠ F
      omega
    · obtain ⟨_, a2, _⟩ := (h.ownB j hj').resolve_left x2
      obtain ⟨f1, _⟩ := hF.resolve_left x1
      show F ≠ L[j].2.f
      omega
    · omega
  · rcases snoc_at L (⟨m, bl, dt⟩, ⟨p, c, F, q, d, G⟩) i hi with ⟨hi', e⟩ | ⟨ei, e⟩ <;> rcases snoc_at L (⟨m, bl, dt⟩, ⟨p, c, F, q, d, G⟩) j hj with ⟨hj', e'⟩ | ⟨ej, e'⟩ <;> rw [e, e'] <;> intro x1 x2
    · exact h.dd i j hi' hj' hij x1 x2
    · obtain ⟨_, a2, _⟩ := (h.ownD i hi').resolve_left x1
      obtain ⟨f1, _⟩ := hG.resolve_left x2
      show L[i].2.g ≠ G
      omega
    · obtain ⟨_, a2, _⟩ := (h.ownD j hj').resolve_left x2
      obtain ⟨f1, _⟩ := hG.resolve_left x1
      show G ≠ L[j].2.g
      omega
    · omega
  · rcases snoc_at L (⟨m, bl, dt⟩, ⟨p, c, F, q, d, G⟩) i hi with ⟨hi', e⟩ | ⟨ei, e⟩ <;> rcases snoc_at L (⟨m, bl, dt⟩, ⟨p, c, F, q, d, G⟩) j hj with ⟨hj', e'⟩ | ⟨ej, e'⟩ <;> rw [e, e'] <;> intro x1 x2
    · exact h.bd i j hi' hj' x1 x2
    · obtain ⟨_, a2, _⟩ := (h.ownB i hi').resolve_left x1
      obtain ⟨f1, _⟩ := hG.resolve_left x2
      show L[i].2.f ≠ G
      omega
    · obtain ⟨_, a2, _⟩ := (h.ownD j hj').resolve_left x2
      obtain ⟨f1, _⟩ := hF.resolve_left x1
      show F ≠ L[j].2.g
      omega
    · exact hFG x1 x2
end Go.Proofs.Ytmbkdollakbigaa
