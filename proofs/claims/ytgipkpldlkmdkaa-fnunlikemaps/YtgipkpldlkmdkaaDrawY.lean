/- Walks of the cursor's stretches, and of a stretch. -/
import Derived.Test.YtgipkpldlkmdkaaDrawX
import Derived.Test.YtgipkpldlkmdkaaMapO
namespace Go.Proofs.Ytgipkpldlkmdkaa
set_option maxRecDepth 100000
open Go.ChangeShapes Go.WideShapes Go.ChangeAt Go.RowKit G00541
/-- each field small -/
def BndX (x : Sx) : Prop := -20000 ≤ x.at_ ∧ x.at_ ≤ 20000 ∧ -20000 ≤ x.long ∧ x.long ≤ 20000 ∧ -20000 ≤ x.place ∧ x.place ≤ 20000
def Bnd (l : List Sx) : Prop := ∀ x ∈ l, BndX x
theorem Bnd.fit {l : List Sx} (h : Bnd l) : FitM l := fun x hx => by
  obtain ⟨a, b, c, d, _, _⟩ := h x hx
  exact ⟨⟨by omega, by omega⟩, ⟨by omega, by omega⟩⟩
theorem Bnd.good {l : List Sx} (h : goodM l = true) : Bnd l := fun x hx => by
  have := (goodX_iff x).1 (chain_all none l h x hx)
  exact ⟨by omega, by omega, by omega, by omega, by omega, by omega⟩
theorem OwnX.but {lo hi B : Nat} {a : Option Addr} {l : List Sx} {w w' : World} (h : OwnX lo hi a l w) (g : But B w w') (hB : B < lo) : OwnX lo hi a l w' :=
  h.out (Out.ofBut g (Nat.le_refl B) (Nat.lt_succ_self B)) (Or.inr hB)
theorem OwnX.wide {lo hi lo' hi' : Nat} {a : Option Addr} {l : List Sx} {w : World} (h : OwnX lo hi a l w) (h1 : lo' ≤ lo) (h2 : hi ≤ hi') : OwnX lo' hi' a l w := by
  rcases h with h | ⟨R, r1, r2, e, hr⟩
  · exact Or.inl h
  · exact Or.inr ⟨R, by omega, by omega, e, hr⟩
/-- what MapOf tells, whatever it is: a map of small fields, or none -/
theorem smap_some (a : Option Addr) (cap : Nat) (l : List Int) (w : World) (hn : l.length ≤ 1048576) (hZ : Is w.heap.size a l w) :
    ∃ (V : List Sx) (ok : Bool), V.length ≤ 16 ∧ Bnd V ∧ (∀ x ∈ V, 0 ≤ x.at_) ∧ Calls Try.prog 7 #[.slice a l.length cap] w fun e w' => MapOut V ok w e w' := by
  by_cases hg : l.length = 16 ∧ allIn l (-1) 10000 = true
  · have hr := fOf_range l hg.1 hg.2
    exact ⟨mapF (fOf l) 16, true, mapF_len _ hr, Bnd.good (mapF_good _ hr), (fun x hx => by have := (goodX_iff x).1 (chain_all none _ (mapF_good _ hr) x hx); omega), smap_yes a cap l w hZ hg.1 hg.2⟩
  · exact ⟨[], false, by decide, (fun _ h => by cases h), (fun _ h => by cases h), smap_no a cap l w hn hZ hg⟩
set_option maxHeartbeats 2000000 in
theorem stretches_any (B N len cap : Nat) (a : Option Addr) (w : World) (hN : N ≤ 800000) (hC : Cur B N (.slice a len cap) w) (hK : Code B len cap a w) :
    Calls Try.prog 40 #[.pointer (some ⟨B, 0, none⟩)] w fun e w' => ∃ (l : List Sx) (b : Option Addr) (c : Nat), e = .returned (.slice b l.length c) ∧ l.length ≤ 16 ∧ Bnd l ∧ OwnX w.heap.size w'.heap.size b l w' ∧ Cur B (N + 200) (.slice a len cap) w' ∧ But B w w' := by
  have hlt := hC.lt
  have HC : Hid (Cur B N (.slice a len cap) w) := hC
  have HK : Hid (Code B len cap a w) := hK
  clear hC hK
  go_enter Try.func40, Try.ntmps40
  go_wp2_with fail
  refine (places_any B N len cap a _ (by omega) HC.out HK.out).mono ?_
  rintro e w1 ⟨l, R, c, rfl, hR, hl, _, hrow, _, hC1, hB1⟩
  have hs1 := hB1.size
  have HC1 : Hid (Cur B (N + 100) (.slice a len cap) w1) := hC1
  have HB1 : Hid (But B w w1) := hB1
  have HK1 : Hid (Code B len cap a w1) := HK.out.but hB1 (Nat.le_refl _) (by omega)
  obtain ⟨V, ok, hV, hbd, hpos, hcall⟩ := smap_some (some ⟨R, 0, none⟩) c l w1 (by omega) (hrow.sl hrow.lt)
  rw [hl] at hcall
  have HCALL := hid hcall
  have HBD := hid hbd
  have HPOS := hid hpos
  clear hC1 hB1 HC HK hrow hcall hbd hl hpos
  go_wp2_with fail
  refine (HCALL.out).mono ?_
  rintro e w2 ⟨b, c2, rfl, ho, b2⟩
  have hs2 := b2.size
  have HC2 : Hid (Cur B (N + 100) (.slice a len cap) w2) := HC1.out.below b2
  have HB2 : Hid (But B w w2) := HB1.out.on b2 hs1
  have HK2 : Hid (Code B len cap a w2) := HK1.out.below (b2.mono (by omega))
  have HO2 : Hid (OwnX w1.heap.size w2.heap.size b V w2) := ho
  clear ho b2 HCALL HC1 HB1 HK1
  by_cases h1 : 1 < V.length
  · have hd : decide ((1 : Int) < (V.length : Int)) = true := decide_eq_true (by omega)
    have hdn : decide (1 < V.length) = true := decide_eq_true h1
    go_wp2_with fail
    refine (one_any _ B _ len cap a _ (by omega) (by omega) (by omega) HC2.out HK2.out).mono ?_
    rintro e w3 ⟨v, rfl, hC3, hB3⟩
    have hs3 := hB3.size
    have HC3 : Hid (Cur B (N + 102) (.slice a len cap) w3) := hC3
    have HB3 : Hid (But B w w3) := HB2.out.trans hB3
    have HO3 : Hid (OwnX w1.heap.size w2.heap.size b V w3) := HO2.out.but hB3 (by omega)
    clear hC3 hB3 HC2 HB2 HK2 HO2
    cases v
    · go_wp2
      go_ret
      have hO := HO3.out.wide hs1 hs3
      have hc := HC3.out.mono (show N + 102 ≤ N + 200 by omega)
      first
        | exact ⟨V, b, c2, rfl, hV, HBD.out, hO, hc, HB3.out⟩
        | exact ⟨V, b, ⟨c2, rfl, hV, HBD.out, hO, hc, HB3.out⟩⟩
        | exact ⟨V, ⟨b, c2, rfl⟩, hV, HBD.out, hO, hc, HB3.out⟩
    · have hO3 := HO3.out
      rcases hO3 with h0 | ⟨T, t1, t2, rfl, hrow⟩
      · rw [h0] at h1; simp at h1
      · have y0 : w3.cell? ⟨T, 3, none⟩ = some (.int .i64 V[1].at_) := (hrow.cell 1 h1).1
        have f0 : w3.frozen? ⟨T, 3, none⟩ = false := hrow.free 3 (by omega)
        have hx := HBD.out V[1] (List.getElem_mem h1)
        have hx0 := HPOS.out V[1] (List.getElem_mem h1)
        have HSET : Hid (XRow T (V.set 1 ⟨V[1].at_ - 1, V[1].long, V[1].place⟩) (w3.setCell ⟨T, 3, none⟩ (.int .i64 (V[1].at_ - 1)))) := hrow.setAt 1 0 h1 (by decide) _ _ rfl
        have HNB : Hid (Bnd (V.set 1 ⟨V[1].at_ - 1, V[1].long, V[1].place⟩)) := fun y hy => by
          rcases List.mem_or_eq_of_mem_set hy with hy | rfl
          · exact HBD.out y hy
          · obtain ⟨x1, x2, x3, x4, x5, x6⟩ := hx
            exact ⟨by simp only; omega, by simp only; omega, x3, x4, x5, x6⟩
        obtain ⟨x1, x2, _⟩ := hx
        have hTB : T ≠ B := by omega
        have HCF : Hid (∀ u, Cur B (N + 200) (.slice a len cap) (w3.setCell ⟨T, 3, none⟩ u)) := fun u => (HC3.out.setOther hTB _ _).mono (by omega)
        have HBF : Hid (∀ u, But B w (w3.setCell ⟨T, 3, none⟩ u)) := fun u => HB3.out.setNew (by omega) _ _
        have HLF : Hid ((V.set 1 ⟨V[1].at_ - 1, V[1].long, V[1].place⟩).length = V.length) := List.length_set
        clear hrow HO3 HC3 HB3
        generalize V.set 1 ⟨V[1].at_ - 1, V[1].long, V[1].place⟩ = V' at *
        generalize V[1].at_ = q at *
        go_wp2
        go_ret
        have hO : OwnX w.heap.size (w3.setCell ⟨T, 3, none⟩ (.int .i64 (q - 1))).heap.size (some ⟨T, 0, none⟩) V' (w3.setCell ⟨T, 3, none⟩ (.int .i64 (q - 1))) := Or.inr ⟨T, by omega, HSET.out.lt, rfl, HSET.out⟩
        rw [← HLF.out] at hV
        first
          | exact ⟨V', some ⟨T, 0, none⟩, c2, by rw [HLF.out]; rfl, hV, HNB.out, hO, HCF.out _, HBF.out _⟩
          | exact ⟨V', some ⟨T, 0, none⟩, ⟨c2, by rw [HLF.out]; rfl, hV, HNB.out, hO, HCF.out _, HBF.out _⟩⟩
          | exact ⟨V', ⟨some ⟨T, 0, none⟩, c2, by rw [HLF.out]; rfl⟩, hV, HNB.out, hO, HCF.out _, HBF.out _⟩
  · have hd : decide ((1 : Int) < (V.length : Int)) = false := decide_eq_false (by omega)
    have hdn : decide (1 < V.length) = false := decide_eq_false h1
    go_wp2
    go_ret
    have hO := HO2.out.wide hs1 (Nat.le_refl _)
    have hc := HC2.out.mono (show N + 100 ≤ N + 200 by omega)
    first
      | exact ⟨V, b, c2, rfl, hV, HBD.out, hO, hc, HB2.out⟩
      | exact ⟨V, b, ⟨c2, rfl, hV, HBD.out, hO, hc, HB2.out⟩⟩
      | exact ⟨V, ⟨b, c2, rfl⟩, hV, HBD.out, hO, hc, HB2.out⟩
/-- block X holds the three cells of a stretch -/
structure SxAt (X : Nat) (p n c : Int) (v : World) : Prop where
  c0 : v.cell? ⟨X, 0, none⟩ = some (.int .i64 p)
  c1 : v.cell? ⟨X, 1, none⟩ = some (.int .i64 n)
  c2 : v.cell? ⟨X, 2, none⟩ = some (.int .i64 c)
  f0 : v.frozen? ⟨X, 0, none⟩ = false
  f1 : v.frozen? ⟨X, 1, none⟩ = false
  f2 : v.frozen? ⟨X, 2, none⟩ = false
  lt : X < v.heap.size
theorem SxAt.new (w : World) (p n c : Int) (t : TypeId) : SxAt w.heap.size p n c (w.alloc (.cells #[.int .i64 p, .int .i64 n, .int .i64 c] t)) := ⟨by go_simp, by go_simp, by go_simp, by go_simp, by go_simp, by go_simp, by simp⟩
theorem SxAt.same {X : Nat} {p n c : Int} {v v' : World} (h : SxAt X p n c v) (hs : v.heap.size ≤ v'.heap.size) (hb : v'.heap[X]? = v.heap[X]?) : SxAt X p n c v' := by
  have hc : ∀ o, v'.cell? ⟨X, o, none⟩ = v.cell? ⟨X, o, none⟩ := fun o => by unfold World.cell?; simp only [hb]
  have hf : ∀ o, v'.frozen? ⟨X, o, none⟩ = v.frozen? ⟨X, o, none⟩ := fun o => by unfold World.frozen?; simp only [hb]
  exact ⟨(hc 0).trans h.c0, (hc 1).trans h.c1, (hc 2).trans h.c2, (hf 0).trans h.f0, (hf 1).trans h.f1, (hf 2).trans h.f2, Nat.lt_of_lt_of_le h.lt hs⟩
theorem SxAt.but {X B : Nat} {p n c : Int} {v v' : World} (h : SxAt X p n c v) (g : But B v v') (hB : X ≠ B) : SxAt X p n c v' := h.same g.size (g.block X h.lt hB)
theorem SxAt.below {X : Nat} {p n c : Int} {v v' : World} (h : SxAt X p n c v) (g : Below v.heap.size v v') : SxAt X p n c v' := h.same g.size (g.block X h.lt)
theorem SxAt.alloc {X : Nat} {p n c : Int} {v : World} (h : SxAt X p n c v) (o : Obj) : SxAt X p n c (v.alloc o) := h.below ((Below.refl _ _).alloc (Nat.le_refl _) _)
end Go.Proofs.Ytgipkpldlkmdkaa
