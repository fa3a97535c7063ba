/- Regions that draw their order and store at last; layers whose blocks and data were made in any order. -/
import Derived.Test.YtmbkdollakbigaaKCopy
import Derived.Deep.RegionHeld
namespace Go.Proofs.Ytmbkdollakbigaa
set_option maxRecDepth 100000
open Go Go.ChangeShapes Go.WideShapes Go.ChangeAt Go.RowKit
section
variable {P : Program} {ops : Array Oper} {Q : Exit → Act → World → Prop} {md : Region.Mode} {S : World → Prop} {z : Nat}
/-- whatever comes up next; S holds behind each but number z -/
def wpAnyL (P : Program) (md : Region.Mode) (ops : Array Oper) (Q : Exit → Act → World → Prop) (S : World → Prop) (z : Nat) : Nat → Array Bool → Act → World → Prop
  | 0, l, a, w => Region.ready md ops l = [] ∧ Q .normal a w
  | n + 1, l, a, w => (Region.ready md ops l = [] → Q .normal a w) ∧ ∀ j ∈ Region.ready md ops l, wpOp P ops Q j (fun b u => (j ≠ z → S u) ∧ wpAnyL P md ops Q S z n (l.setIfInBounds j true) b u) a w
theorem wpAny_of_L : ∀ (n : Nat) (l : Array Bool) (a : Act) (w : World), wpAnyL P md ops Q S z n l a w → wpAny P md ops Q n l a w
  | 0, _, _, _, h => h
  | n + 1, _, _, _, h => ⟨h.1, fun j hj => wpOp_mono (fun b u x => wpAny_of_L n _ b u x.2) (h.2 j hj)⟩
/-- each of C but number i waits for one of C -/
def waits (md : Region.Mode) (ops : Array Oper) (i : Nat) (C : List Nat) : Bool := C.all fun c => c == i || ((ops[c]?).map fun o => o.after.any fun e => Region.binds md e && C.contains e.on).getD false
def fresh (l : Array Bool) (C : List Nat) : Bool := C.all fun c => !l.getD c true
theorem waits_only {l : Array Bool} {i j : Nat} {C : List Nat} (hC : waits md ops i C = true) (hl : fresh l C = true) (hj : j ∈ Region.ready md ops l) (hm : j ∈ C) : j = i := by
  obtain ⟨_, o, ho, hall⟩ := mem_ready.1 hj
  have h1 := List.all_eq_true.1 hC j hm
  rw [ho] at h1
  simp only [Option.map_some, Option.getD_some, Bool.or_eq_true, beq_iff_eq] at h1
  rcases h1 with h1 | h1
  · exact h1
  · obtain ⟨e, he, h2⟩ := Array.any_eq_true'.1 h1
    rw [Bool.and_eq_true] at h2
    have h3 := hall e he h2.1
    have h4 := List.all_eq_true.1 hl e.on (by simpa using h2.2)
    exfalso
    have h5 : l.getD e.on true = true := by
      unfold Array.getD at h3 ⊢
      split at h3
      · rename_i h; rw [dif_pos h]; exact h3
      · cases h3
    rw [h5] at h4
    cases h4
theorem fresh_set {l : Array Bool} {j : Nat} {C : List Nat} (hl : fresh l C = true) (hj : j ∉ C) : fresh (l.setIfInBounds j true) C = true := by
  refine List.all_eq_true.2 fun c hc => ?_
  have := List.all_eq_true.1 hl c hc
  rw [getD_set_ne true (fun e => hj (by rw [e]; exact hc))]
  exact this
theorem wpAnyL_first {i : Nat} {oi : Oper} {v : Value} {C : List Nat} (hi : ops[i]? = some oi) (hsel : ∀ (j : Nat) (o : Oper) cs b, ops[j]? = some o → o.op ≠ .select cs b) (hQ : ∀ c a w, Q (.panic c) (a.put oi.dst v) w → Q (.panic c) a w)
    (hC : waits md ops i C = true) (hz : z ∈ C) (hiz : i ≠ z) :
    ∀ (n : Nat) (l : Array Bool) (a : Act) (w : World), fresh l C = true →
      (∀ j oj, ops[j]? = some oj → j ≠ i → l.getD j true = false → (∀ e ∈ oj.after, Region.binds md e = true → e.on ≠ i) → oi.apart ops oj = true) →
      i ∈ Region.ready md ops l → YieldsIf P ops S oi v a → S w → wpAnyL P md ops Q S z n (l.setIfInBounds i true) (a.put oi.dst v) w → wpAnyL P md ops Q S z (n + 1) l a w := by
  intro n
  induction n with
  | zero =>
    intro l a w _ _ hr hy hS H
    refine ⟨fun h0 => (by rw [h0] at hr; cases hr), fun j hj => ?_⟩
    rcases Nat.decEq j i with e | e
    · have h1 := ready_mono hj e
      rw [H.1] at h1; cases h1
    · subst e; exact hy.wpOp hi hS ⟨fun _ => hS, H⟩
  | succ n ih =>
    intro l a w hl hfree hr hy hS H
    refine ⟨fun h0 => (by rw [h0] at hr; cases hr), fun j hj => ?_⟩
    rcases Nat.decEq j i with e | e
    · obtain ⟨hun, oj, hoj, hall⟩ := mem_ready.1 hj
      have hjC : j ∉ C := fun hm => e (waits_only hC hl hj hm)
      have hjz : j ≠ z := fun h => hjC (by rw [h]; exact hz)
      have hnot : ∀ x ∈ oj.after, Region.binds md x = true → x.on ≠ i := fun x hx hb he => by
        have h1 := hall x hx hb
        have h0 := (mem_ready.1 hr).1
        rw [he] at h1
        have h2 : l.getD i true = true := by
          unfold Array.getD at h1 ⊢
          split at h1
          · rename_i h; rw [dif_pos h]; exact h1
          · cases h1
        rw [h2] at h0; cases h0
      have H2 := wpOp_putIf hoj (hfree j oj hoj e hun hnot) (fun cs b => hsel i oi cs b hi) (fun cs b => hsel j oj cs b hoj) hQ hy (H.2 j (ready_mono hj e))
      refine wpOp_mono (fun b u x => ?_) H2
      obtain ⟨x1, x2, x3⟩ := x
      refine ⟨x2, ih _ b u (fresh_set hl hjC) (fun k ok hk hki hku hno => hfree k ok hk hki ?_ hno) (ready_mono hr (Ne.symm e)) x1 (x2 hjz) ?_⟩
      · rcases Nat.decEq j k with e2 | e2
        · rw [getD_set_ne true e2] at hku; exact hku
        · subst e2; exact hun
      · rw [Array.setIfInBounds_comm _ _ e]
        exact x3
    · subst e; exact hy.wpOp hi hS ⟨fun _ => hS, H⟩
/-- take number i first: z waits for it -/
theorem wpAnyL_take {i : Nat} {oi : Oper} {v : Value} {C : List Nat} {n : Nat} {l : Array Bool} {a : Act} {w : World} (hi : ops[i]? = some oi) (hs : (Region.noSelect ops && Region.free md ops l i && (Region.ready md ops l).contains i && waits md ops i C && fresh l C && C.contains z && (i != z)) = true)
    (hQ : ∀ c a w, Q (.panic c) (a.put oi.dst v) w → Q (.panic c) a w) (hy : YieldsIf P ops S oi v a) (hS : S w) (h : wpAnyL P md ops Q S z n (l.setIfInBounds i true) (a.put oi.dst v) w) : wpAnyL P md ops Q S z (n + 1) l a w := by
  simp only [Bool.and_eq_true] at hs
  obtain ⟨⟨⟨⟨⟨⟨h1, h2⟩, h3⟩, h4⟩, h5⟩, h6⟩, h7⟩ := hs
  exact wpAnyL_first hi (Region.noSelect_spec h1) hQ h4 (by simpa using h6) (by simpa using h7) n l a w h5 (Region.free_spec hi h2) (by simpa using h3) hy hS h
/-- number i alone may come up -/
theorem wpAnyL_one {i : Nat} {o : Oper} {n : Nat} {l : Array Bool} {a : Act} {w : World} (hr : (Region.ready md ops l == [i]) = true) (ho : ops[i]? = some o)
    (h : ∀ K' : Act → World → Prop, Shut (∀ b u, (i ≠ z → S u) → wpAnyL P md ops Q S z n (l.setIfInBounds i true) b u → K' b u) → if Region.wanted o (yielded ops a.tmps) = true then Oper.wp P o a w K' Q else K' (a.put o.dst undef) w) : wpAnyL P md ops Q S z (n + 1) l a w := by
  have hr' : Region.ready md ops l = [i] := by simpa using hr
  refine ⟨fun h0 => (by rw [hr'] at h0; cases h0), fun j hj => ?_⟩
  rw [hr', List.mem_singleton] at hj
  subst hj
  exact wpOp_step ho (fun K' hK => h K' (fun b u h1 h2 => hK b u ⟨h1, h2⟩))
theorem wpAnyL_done {l : Array Bool} {a : Act} {w : World} {n : Nat} (hr : (Region.ready md ops l).isEmpty = true) (h : Q .normal a w) : wpAnyL P md ops Q S z n l a w := by
  have hr' : Region.ready md ops l = [] := by simpa using hr
  cases n with
  | zero => exact ⟨hr', h⟩
  | succ n => exact ⟨fun _ => h, by rw [hr']; simp⟩
theorem wp_region_L {id : Nat} {a : Act} {w : World} (S : World → Prop) (z : Nat) (hm : P.follows .mixedOrders = true) (h : wpAnyL P .any ops Q S z ops.size (Array.replicate ops.size false) a w.drew) : (Code.region id ops true).wp P Q a w :=
  wp_region_any hm (wpAny_of_L _ _ _ _ h)
/-- two may come up -/
theorem wpAnyL_two {i j : Nat} {o o' : Oper} {n : Nat} {l : Array Bool} {a : Act} {w : World} (hr : (Region.ready md ops l == [i, j]) = true) (ho : ops[i]? = some o) (ho' : ops[j]? = some o')
    (h : ∀ K' : Act → World → Prop, Shut (∀ b u, (i ≠ z → S u) → wpAnyL P md ops Q S z n (l.setIfInBounds i true) b u → K' b u) → if Region.wanted o (yielded ops a.tmps) = true then Oper.wp P o a w K' Q else K' (a.put o.dst undef) w)
    (h' : ∀ K' : Act → World → Prop, Shut (∀ b u, (j ≠ z → S u) → wpAnyL P md ops Q S z n (l.setIfInBounds j true) b u → K' b u) → if Region.wanted o' (yielded ops a.tmps) = true then Oper.wp P o' a w K' Q else K' (a.put o'.dst undef) w) : wpAnyL P md ops Q S z (n + 1) l a w := by
  have hr' : Region.ready md ops l = [i, j] := by simpa using hr
  refine ⟨fun h0 => (by rw [hr'] at h0; cases h0), fun k hk => ?_⟩
  rw [hr', List.mem_cons, List.mem_singleton] at hk
  rcases hk with rfl | rfl
  · exact wpOp_step ho (fun K' hK => h K' (fun b u h1 h2 => hK b u ⟨h1, h2⟩))
  · exact wpOp_step ho' (fun K' hK => h' K' (fun b u h1 h2 => hK b u ⟨h1, h2⟩))
end
/-- a layer's blocks and data in memory of their own, in blocks apart -/
def OwnZ (lo hi : Nat) (p q : Option Addr) (bl : List Int) (dt : List ByteArray) (w : World) : Prop := ∃ F G, (bl = [] ∨ (lo ≤ F ∧ F < hi ∧ p = some ⟨F, 0, none⟩ ∧ IRow F bl w)) ∧ (dt = [] ∨ (lo ≤ G ∧ G < hi ∧ q = some ⟨G, 0, none⟩ ∧ SRow G dt w)) ∧ (bl ≠ [] → dt ≠ [] → F ≠ G)
theorem OwnZ.on {lo hi : Nat} {p q : Option Addr} {bl : List Int} {dt : List ByteArray} {w w' : World} (h : OwnZ lo hi p q bl dt w) (g : Below w.heap.size w w') (hh : hi ≤ w.heap.size) : OwnZ lo w'.heap.size p q bl dt w' := by
  obtain ⟨F, G, h1, h2, h3⟩ := h
  have := g.size
  exact ⟨F, G, h1.imp id (fun ⟨a1, a2, a3, a4⟩ => ⟨a1, by omega, a3, a4.below g⟩), h2.imp id (fun ⟨a1, a2, a3, a4⟩ => ⟨a1, by omega, a3, a4.below g⟩), h3⟩
theorem OwnZ.low {lo lo' hi : Nat} {p q : Option Addr} {bl : List Int} {dt : List ByteArray} {w : World} (h : OwnZ lo hi p q bl dt w) (hl : lo' ≤ lo) : OwnZ lo' hi p q bl dt w := by
  obtain ⟨F, G, h1, h2, h3⟩ := h
  exact ⟨F, G, h1.imp id (fun ⟨a1, a2⟩ => ⟨by omega, a2⟩), h2.imp id (fun ⟨a1, a2⟩ => ⟨by omega, a2⟩), h3⟩
theorem app_int_own (W : World) (lo X : Nat) (p : Option Addr) (c : Nat) (bl : List Int) (hown : W.ownsRow lo 3 1 (.slice (some ⟨X, 0, none⟩) 0 0) 0 []) (hI : Is W.heap.size p bl W) (hn : bl.length ≤ 9000) (hlo : lo ≤ W.heap.size) :
    ∃ a1 c1 W', (∀ ty, (Builtin.append_ #[26, 26] ty #[.slice (some ⟨X, 0, none⟩) 0 0, .slice p bl.length c]).run Try.prog W = .ok (.slice a1 bl.length c1) W') ∧ W'.ownsRow lo 3 1 (.slice a1 bl.length c1) bl.length (ivals bl) ∧ W.grownBy W' (some X) ∧ (∀ g, (Value.slice a1 bl.length c1).ownBlock = some g → g = X ∨ g = W.heap.size) := by
  obtain ⟨v', w', r, o, g, nb⟩ := app_int W lo (.slice (some ⟨X, 0, none⟩) 0 0) 0 [] hown p c bl hI (by omega) hlo
  rw [Nat.zero_add, List.nil_append] at o
  obtain ⟨a1, c1, rfl⟩ := rw_form o
  refine ⟨a1, c1, w', r, o, g, fun b hb => ?_⟩
  rcases nb with e | e
  · rw [hb] at e; injection e with e; exact Or.inl e
  · rw [hb] at e; injection e with e; exact Or.inr e
theorem app_str_own (W : World) (lo X : Nat) (p : Option Addr) (c : Nat) (bl : List ByteArray) (hown : W.ownsRow lo 9 1 (.slice (some ⟨X, 0, none⟩) 0 0) 0 []) (hI : Ss W.heap.size p bl W) (hn : bl.length ≤ 9000) (hlo : lo ≤ W.heap.size) :
    ∃ a1 c1 W', (∀ ty, (Builtin.append_ #[62, 62] ty #[.slice (some ⟨X, 0, none⟩) 0 0, .slice p bl.length c]).run Try.prog W = .ok (.slice a1 bl.length c1) W') ∧ W'.ownsRow lo 9 1 (.slice a1 bl.length c1) bl.length (svals bl) ∧ W.grownBy W' (some X) ∧ (∀ g, (Value.slice a1 bl.length c1).ownBlock = some g → g = X ∨ g = W.heap.size) := by
  obtain ⟨v', w', r, o, g, nb⟩ := app_str W lo (.slice (some ⟨X, 0, none⟩) 0 0) 0 [] hown p c bl hI (by omega) hlo
  rw [Nat.zero_add, List.nil_append] at o
  obtain ⟨a1, c1, rfl⟩ := rw_form o
  refine ⟨a1, c1, w', r, o, g, fun b hb => ?_⟩
  rcases nb with e | e
  · rw [hb] at e; injection e with e; exact Or.inl e
  · rw [hb] at e; injection e with e; exact Or.inr e
theorem ownZ_of {lo : Nat} {a1 a2 : Option Addr} {c1 c2 : Nat} {bl : List Int} {dt : List ByteArray} {w : World} (h1 : w.ownsRow lo 3 1 (.slice a1 bl.length c1) bl.length (ivals bl)) (h2 : w.ownsRow lo 9 1 (.slice a2 dt.length c2) dt.length (svals dt)) (hne : ∀ g, (Value.slice a1 bl.length c1).ownBlock = some g → (Value.slice a2 dt.length c2).ownBlock ≠ some g) : OwnZ lo w.heap.size a1 a2 bl dt w := by
  obtain ⟨b1, d1, e1, hI⟩ := own_ints h1
  obtain ⟨b2, d2, e2, hS⟩ := own_strs h2
  injection e1 with e1 _ _
  injection e2 with e2 _ _
  subst e1
  subst e2
  obtain ⟨F, hF⟩ : ∃ F, bl = [] ∨ (lo ≤ F ∧ F < w.heap.size ∧ a1 = some ⟨F, 0, none⟩ ∧ IRow F bl w) := by
    rcases hI with h0 | ⟨F, f1, f2, f3, f4⟩
    · exact ⟨0, Or.inl h0⟩
    · exact ⟨F, Or.inr ⟨f1, f2, f3, f4⟩⟩
  obtain ⟨G, hG⟩ : ∃ G, dt = [] ∨ (lo ≤ G ∧ G < w.heap.size ∧ a2 = some ⟨G, 0, none⟩ ∧ SRow G dt w) := by
    rcases hS with h0 | ⟨F, f1, f2, f3, f4⟩
    · exact ⟨0, Or.inl h0⟩
    · exact ⟨F, Or.inr ⟨f1, f2, f3, f4⟩⟩
  refine ⟨F, G, hF, hG, fun x1 x2 e => ?_⟩
  obtain ⟨_, _, f3, _⟩ := hF.resolve_left x1
  obtain ⟨_, _, g3, _⟩ := hG.resolve_left x2
  exact hne F (by rw [f3]; rfl) (by rw [g3, e]; rfl)
/-- both rows laid ahead -/
theorem two_apps (U : World) (lo XI XT : Nat) (p q : Option Addr) (c d : Nat) (bl : List Int) (dt : List ByteArray) (hI : U.ownsRow lo 3 1 (.slice (some ⟨XI, 0, none⟩) 0 0) 0 []) (hT : U.ownsRow lo 9 1 (.slice (some ⟨XT, 0, none⟩) 0 0) 0 []) (hX : XI ≠ XT) (rI : Is U.heap.size p bl U) (rT : Ss lo q dt U) (n1 : bl.length ≤ 9000) (n2 : dt.length ≤ 9000) (hlo : lo ≤ U.heap.size) :
    ∃ a1 c1 WA a2 c2 WZ, (∀ ty, (Builtin.append_ #[26, 26] ty #[.slice (some ⟨XI, 0, none⟩) 0 0, .slice p bl.length c]).run Try.prog U = .ok (.slice a1 bl.length c1) WA) ∧ (∀ ty, (Builtin.append_ #[62, 62] ty #[.slice (some ⟨XT, 0, none⟩) 0 0, .slice q dt.length d]).run Try.prog WA = .ok (.slice a2 dt.length c2) WZ) ∧ OwnZ lo WZ.heap.size a1 a2 bl dt WZ ∧ Below lo U WA ∧ Below lo U WZ := by
  obtain ⟨a1, c1, WA, r1, o1, g1, k1⟩ := app_int_own U lo XI p c bl hI rI n1 hlo
  have hXI := hI.lt XI rfl
  have hXT := hT.lt XT rfl
  have b1 : Below lo U WA := below_of_grown g1 hlo (fun k e => by injection e with e; omega)
  have hs1 := g1.size
  have hT1 : WA.ownsRow lo 9 1 (.slice (some ⟨XT, 0, none⟩) 0 0) 0 [] := rw_keep hT (fun k hk => by
    have hk' : some XT = some k := hk
    injection hk' with hk'
    exact g1.block k (by omega) (fun e => by injection e with e; omega))
  obtain ⟨a2, c2, WZ, r2, o2, g2, k2⟩ := app_str_own WA lo XT q d dt hT1 ((rT.below b1).mono (by omega)) n2 (by omega)
  have b2 : Below lo WA WZ := below_of_grown g2 (by omega) (fun k e => by injection e with e; omega)
  have o1' : WZ.ownsRow lo 3 1 (.slice a1 bl.length c1) bl.length (ivals bl) := rw_keep o1 (fun k hk => g2.block k (o1.lt k hk).2 (fun e => by injection e with e; rcases k1 k hk with h | h <;> omega))
  refine ⟨a1, c1, WA, a2, c2, WZ, r1, r2, ownZ_of o1' o2 (fun g h1 h2 => ?_), b1, b1.trans b2⟩
  have h3 := (o1.lt g h1).2
  rcases k1 g h1 with e1 | e1 <;> rcases k2 g h2 with e2 | e2 <;> omega
/-- the texts' row laid behind the numbers -/
theorem two_late (V : World) (p q : Option Addr) (c d : Nat) (bl : List Int) (dt : List ByteArray) (rI : Is V.heap.size p bl V) (rT : Ss V.heap.size q dt V) (n1 : bl.length ≤ 9000) (n2 : dt.length ≤ 9000) :
    ∃ a1 c1 WA a2 c2 WZ, (∀ ty, (Builtin.append_ #[26, 26] ty #[.slice (some ⟨V.heap.size, 0, none⟩) 0 0, .slice p bl.length c]).run Try.prog (V.alloc (.cells #[] 3)) = .ok (.slice a1 bl.length c1) WA) ∧ (∀ ty, (Builtin.append_ #[62, 62] ty #[.slice (some ⟨WA.heap.size, 0, none⟩) 0 0, .slice q dt.length d]).run Try.prog (WA.alloc (.cells #[] 9)) = .ok (.slice a2 dt.length c2) WZ) ∧ OwnZ V.heap.size WZ.heap.size a1 a2 bl dt WZ ∧ Below V.heap.size V WA ∧ Below V.heap.size V WZ := by
  have b0 := boxB V (.cells #[] 3)
  have hz0 : (V.alloc (.cells #[] 3)).heap.size = V.heap.size + 1 := heap_size _ _
  obtain ⟨a1, c1, WA, r1, o1, g1, k1⟩ := app_int_own (V.alloc (.cells #[] 3)) V.heap.size V.heap.size p c bl (World.ownsRow_made V #[] 0 (Nat.le_refl _) (by decide) rfl) ((rI.below b0).mono b0.size) n1 (by omega)
  have hs1 := g1.size
  have b1 : Below V.heap.size V WA := b0.trans (below_of_grown g1 (by omega) (fun k e => by injection e with e; omega))
  have b2 := boxB WA (.cells #[] 9)
  have hz2 : (WA.alloc (.cells #[] 9)).heap.size = WA.heap.size + 1 := heap_size _ _
  have b12 := b1.trans (b2.mono b1.size)
  have hmade : (WA.alloc (.cells #[] 9)).ownsRow V.heap.size 9 1 (.slice (some ⟨WA.heap.size, 0, none⟩) 0 0) 0 [] := rw_mono (World.ownsRow_made WA #[] 0 (Nat.le_refl _) (by decide) rfl) (by omega)
  obtain ⟨a2, c2, WZ, r2, o2, g2, k2⟩ := app_str_own (WA.alloc (.cells #[] 9)) V.heap.size WA.heap.size q d dt hmade ((rT.below b12).mono b12.size) n2 (by omega)
  have b3 : Below V.heap.size (WA.alloc (.cells #[] 9)) WZ := below_of_grown g2 (by omega) (fun k e => by injection e with e; omega)
  have o1' : WZ.ownsRow V.heap.size 3 1 (.slice a1 bl.length c1) bl.length (ivals bl) := rw_keep (rw_below o1 b2) (fun k hk => g2.block k (by have := (o1.lt k hk).2; omega) (fun e => by injection e with e; have := (o1.lt k hk).2; omega))
  refine ⟨a1, c1, WA, a2, c2, WZ, r1, r2, ownZ_of o1' o2 (fun g h1 h2 => ?_), b1, b12.trans b3⟩
  have h3 := (o1.lt g h1).2
  rcases k2 g h2 with e2 | e2 <;> omega
/-- one more layer behind, its blocks and data new -/
theorem KG.growZ {lo : Nat} {v : Value} {L : List (Ly × LA)} {w w1 : World} (h : KG lo v L w) (hlo : lo ≤ w.heap.size) (g : Below w.heap.size w w1) (X cX : Nat) (m : Int) (p q : Option Addr) (bl : List Int) (dt : List ByteArray) (c d : Nat)
    (hX : w1.heap[X]? = some (.cells #[.int .i64 m, .slice p bl.length c, .slice q dt.length d] 64)) (ho : OwnZ w.heap.size w1.heap.size p q bl dt w1) (hn : L.length + 1 ≤ 10000) :
    ∃ v' w' a, (∀ ty, (Builtin.append_ #[29, 29] ty #[v, .slice (some ⟨X, 0, none⟩) 1 cX]).run Try.prog w1 = .ok v' w') ∧ KG lo v' (L ++ [(⟨m, bl, dt⟩, a)]) w' ∧ w1.grownBy w' v.ownBlock ∧ Below lo w1 w' := by
  have h1 := h.on g
  have hgs := g.size
  obtain ⟨v', w', r, o, gr, nb⟩ := app_ly w1 lo v L.length (kvals L) h1.row X cX m p bl.length c q dt.length d hX hn (by omega)
  obtain ⟨F, G, hF, hG, hFG⟩ := ho
  have hvb : ∀ Y, v.ownBlock = some Y → Y < w.heap.size := fun Y e => (h.row.lt Y e).2
  have hkb : ∀ Y, Y < w1.heap.size → v.ownBlock ≠ some Y → w'.heap[Y]? = w1.heap[Y]? := fun Y hY hne => gr.block Y hY (fun e => hne e.symm)
  have hnb : ∀ Y, Y < w1.heap.size → v.ownBlock ≠ some Y → v'.ownBlock ≠ some Y := fun Y hY hne e => by
    rcases nb with e2 | e2
    · exact hne (by rw [← e2]; exact e)
    · rw [e2] at e; injection e with e; omega
  have hsz := gr.size
  refine ⟨v', w', ⟨p, c, F, q, d, G⟩, r, ?_, gr, below_of_grown gr (by omega) (fun k hk => (h.row.lt k hk).1)⟩
  have hvF : w.heap.size ≤ F → v.ownBlock ≠ some F := fun h9 e => by have := hvb F e; omega
  have hvG : w.heap.size ≤ G → v.ownBlock ≠ some G := fun h9 e => by have := hvb G e; omega
  refine ⟨by rw [List.length_append, kvals_snoc]; exact o, fun i hi => ?_, fun i hi => ?_, fun i j hi hj hij => ?_, fun i j hi hj hij => ?_, fun i j hi hj => ?_⟩
  · rcases snoc_at L (⟨m, bl, dt⟩, ⟨p, c, F, q, d, G⟩) i hi with ⟨hi', e⟩ | ⟨_, e⟩
    · rw [e]
      exact (h1.ownB i hi').imp id (fun ⟨a1, a2, a3, a4, a5⟩ => ⟨a1, by omega, hnb _ a2 a3, a4, a5.same hsz (hkb _ a2 a3)⟩)
    · rw [e]
      rcases hF with h0 | ⟨f1, f2, f3, f4⟩
      · exact Or.inl h0
      · exact Or.inr ⟨by show lo ≤ F; omega, by show F < _; omega, hnb F (by omega) (hvF f1), f3, f4.same hsz (hkb F (by omega) (hvF f1))⟩
  · rcases snoc_at L (⟨m, bl, dt⟩, ⟨p, c, F, q, d, G⟩) i hi with ⟨hi', e⟩ | ⟨_, e⟩
    · rw [e]
      exact (h1.ownD i hi').imp id (fun ⟨a1, a2, a3, a4, a5⟩ => ⟨a1, by omega, hnb _ a2 a3, a4, a5.same hsz (hkb _ a2 a3)⟩)
    · rw [e]
      rcases hG with h0 | ⟨f1, f2, f3, f4⟩
      · exact Or.inl h0
      · exact Or.inr ⟨by show lo ≤ G; omega, by show G < _; omega, hnb G (by omega) (hvG f1), f3, f4.same hsz (hkb G (by omega) (hvG f1))⟩
  · rcases snoc_at L (⟨m, bl, dt⟩, ⟨p, c, F, q, d, G⟩) i hi with ⟨hi', e⟩ | ⟨ei, e⟩ <;> rcases snoc_at L (⟨m, bl, dt⟩, ⟨p, c, F, q, d, G⟩) j hj with ⟨hj', e'⟩ | ⟨ej, e'⟩ <;> rw [e, e'] <;> intro x1 x2
    · exact h.bb i j hi' hj' hij x1 x2
    · obtain ⟨_, a2, _⟩ := (h.ownB i hi').resolve_left x1
      obtain ⟨f1, _⟩ := hF.resolve_left x2
      show L[i].2.f ≠ F
      omega
    · obtain ⟨_, a2, _⟩ := (h.ownB j hj').resolve_left x2
      obtain ⟨f1, _⟩ := hF.resolve_left x1
      show F ≠ L[j].2.f
      omega
    · omega
  · rcases snoc_at L (⟨m, bl, dt⟩, ⟨p, c, F, q, d, G⟩) i hi with ⟨hi', e⟩ | ⟨ei, e⟩ <;> rcases snoc_at L (⟨m, bl, dt⟩, ⟨p, c, F, q, d, G⟩) j hj with ⟨hj', e'⟩ | ⟨ej, e'⟩ <;> rw [e, e'] <;> intro x1 x2
    · exact h.dd i j hi' hj' hij x1 x2
    · obtain ⟨_, a2, _⟩ := (h.ownD i hi').resolve_left x1
      obtain ⟨f1, _⟩ := hG.resolve_left x2
      show L[i].2.g ≠ G
      omega
    · obtain ⟨_, a2, _⟩ := (h.ownD j hj').resolve_left x2
      obtain ⟨f1, _⟩ := hG.resolve_left x1
      show G ≠ L[j].2.g
      omega
    · omega
  · rcases snoc_at L (⟨m, bl, dt⟩, ⟨p, c, F, q, d, G⟩) i hi with ⟨hi', e⟩ | ⟨ei, e⟩ <;> rcases snoc_at L (⟨m, bl, dt⟩, ⟨p, c, F, q, d, G⟩) j hj with ⟨hj', e'⟩ | ⟨ej, e'⟩ <;> rw [e, e'] <;> intro x1 x2
    · exact h.bd i j hi' hj' x1 x2
    · obtain ⟨_, a2, _⟩ := (h.ownB i hi').resolve_left x1
      obtain ⟨f1, _⟩ := hG.resolve_left x2
      show L[i].2.f ≠ G
      omega
    · obtain ⟨_, a2, _⟩ := (h.ownD j hj').resolve_left x2
      obtain ⟨f1, _⟩ := hF.resolve_left x1
      show F ≠ L[j].2.g
      omega
    · exact hFG x1 x2
end Go.Proofs.Ytmbkdollakbigaa
