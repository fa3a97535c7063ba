/- What is drawn: deltas, and the Draw functions. -/
import Derived.Test.YtfkcfachbfbmpaaTDx
import Derived.Test.YtfkcfachbfbmpaaTDf
namespace Go.Proofs.Ytfkcfachbfbmpaa
set_option maxRecDepth 100000
open Go Go.ChangeShapes Go.WideShapes Go.ChangeAt Go.RowKit
theorem OwnT.but {B lo hi : Nat} {a : Option Addr} {l : List Pt} {w w' : World} (h : OwnT lo hi a l w) (g : But B w w') (hB : B < lo) : OwnT lo hi a l w' := by
  rcases h with h | ⟨R, h1, h3, e, hr⟩
  · exact Or.inl h
  · exact Or.inr ⟨R, h1, h3, e, hr.same g.size (g.block R hr.lt (by omega))⟩
theorem OwnT.lo {lo lo' hi hi' : Nat} {a : Option Addr} {l : List Pt} {w : World} (h : OwnT lo hi a l w) (h1 : lo' ≤ lo) (h2 : hi ≤ hi') : OwnT lo' hi' a l w := by
  rcases h with h | ⟨R, g1, g3, e, hr⟩
  · exact Or.inl h
  · exact Or.inr ⟨R, by omega, by omega, e, hr⟩
/-- parts that were drawn -/
def DrawnT (B lo : Nat) (w : World) (e : Ending) (w' : World) : Prop := ∃ (b : Option Addr) (c : Nat) (l : List Pt), e = .returned (.slice b l.length c) ∧ l.length ≤ 1000 ∧ (∀ p ∈ l, SmP p) ∧ OwnT lo w'.heap.size b l w' ∧ But B w w'
set_option maxHeartbeats 4000000 in
theorem delta_any (s : ByteArray) (B N len cap : Nat) (a : Option Addr) (w : World) (hs : s.size ≤ 140) (hN : N ≤ 800000) (hC : Cur B N (.slice a len cap) w) (hK : Code B len cap a w) :
    Calls Try.prog 40 #[.pointer (some ⟨B, 0, none⟩), .string s] w fun e w' => (∃ (b : Option Addr) (c : Nat) (l : List Pt), e = .returned (.slice b l.length c) ∧ l.length ≤ 1000 ∧ (∀ p ∈ l, SmP p) ∧ OwnT w.heap.size w'.heap.size b l w') ∧ Cur B (N + 50) (.slice a len cap) w' ∧ But B w w' := by
  have hlt := hC.lt
  have HCH := hid (changed_any s B N len cap a w hs (by omega) hC hK)
  have HK := hid hK
  clear hC hK
  go_enter Try.func40, Try.ntmps40
  go_wp2_with fail
  refine HCH.out.mono ?_
  rintro e w1 ⟨t, rfl, ht, hC1, hB1⟩
  have HC1 := hid hC1
  have HB1 := hid hB1
  have hs1 := hB1.size
  clear hC1 hB1 HCH
  go_wp2_with fail
  refine (sDeltaOf_any s t _).mono ?_
  rintro e w2 ⟨b2, c2, rfl, o2, g2⟩
  have hl2 := dltV_len s t
  have HSM := hid (dltV_small s t)
  have HC2 := hid (HC1.out.below g2)
  have HB2 : Hid (But B w w2) := HB1.out.trans (But.ofBelow g2)
  have HO2 := hid (o2.lo hs1 (Nat.le_refl _))
  have HK2 : Hid (Code B len cap a w2) := HK.out.but HB2.out (Nat.le_refl _) (by omega)
  have hs2 := g2.size
  clear o2 g2 HC1 HB1
  generalize dltV s t = V at *
  generalize dltOk s t = ok at *
  by_cases hV : 0 < V.length
  · have hd : decide ((0 : Int) < (V.length : Int)) = true := decide_eq_true (by omega)
    go_wp2_with fail
    refine (one_any _ B _ len cap a _ (by omega) (by omega) (by omega) HC2.out HK2.out).mono ?_
    rintro e w3 ⟨v3, rfl, hC3, hB3⟩
    have HC3 := hid hC3
    have HB3 : Hid (But B w w3) := HB2.out.trans hB3
    have HO3 := hid (HO2.out.but hB3 hlt)
    have HK3 : Hid (Code B len cap a w3) := HK2.out.but hB3 (Nat.le_refl _) (by omega)
    have hs3 := hB3.size
    clear hC3 hB3 HC2 HB2 HK2 HO2
    cases v3
    · go_wp2_with fail
      go_ret
      exact ⟨⟨b2, c2, V, rfl, hl2, HSM.out, HO3.out.lo (Nat.le_refl _) hs3⟩, HC3.out.mono (by omega), HB3.out⟩
    · go_wp2_with fail
      refine (pick_any _ B _ len cap a _ (by omega) (by omega) (by omega) HC3.out HK3.out).mono ?_
      rintro e w4 ⟨x, rfl, x0, x1, hC4, hB4⟩
      have HC4 := hid hC4
      have HB4 : Hid (But B w w4) := HB3.out.trans hB4
      have HO4 := hid (HO3.out.but hB4 hlt)
      have HK4 : Hid (Code B len cap a w4) := HK3.out.but hB4 (Nat.le_refl _) (by omega)
      have hs4 := hB4.size
      clear hC4 hB4 HC3 HB3 HK3 HO3
      go_wp2_with fail
      refine (pick_any _ B _ len cap a _ (by omega) (by omega) (by omega) HC4.out HK4.out).mono ?_
      rintro e w5 ⟨y, rfl, y0, y1, hC5, hB5⟩
      have HC5 := hid hC5
      have HB5 : Hid (But B w w5) := HB4.out.trans hB5
      have HO5 := hid (HO4.out.but hB5 hlt)
      have HK5 : Hid (Code B len cap a w5) := HK4.out.but hB5 (Nat.le_refl _) (by omega)
      have hs5 := hB5.size
      have HOF := hid (of_any tees 3 w5.heap.size B (N + 30 + 2 + 2 + 2) len cap 3 a _ rfl (by decide) (by decide) (by simp) (by omega) (strs_lits tees w5) (by omega) (HC5.out.alloc _) (HK5.out.but ((But.refl B w5).alloc _) (Nat.le_refl _) (by omega)))
      clear hC5 hB5 HC4 HB4 HK4 HO4
      go_wp2_with fail
      refine HOF.out.mono ?_
      rintro e w6 ⟨i, hi, rfl, hC6, hB6⟩
      have hsm := tees_small i hi
      have HC6 := hid hC6
      have hB56 : But B w5 w6 := ((But.refl B w5).alloc _).trans hB6
      have HB6 : Hid (But B w w6) := HB5.out.trans hB56
      have hs6 := hB56.size
      have HO6 := hid (HO5.out.but hB56 hlt)
      clear hC6 hB6 hB56 HOF HC5 HB5 HK5 HO5
      generalize tees.getD i ByteArray.empty = D at *
      rcases HO6.out with h0 | ⟨R, r1, r2, rfl, hrow⟩
      · rw [h0] at hV; exact absurd hV (Nat.lt_irrefl _)
      obtain ⟨q0, q1, q2⟩ := hrow.cell 0 hV
      have f0 := hrow.free 0 (by omega)
      have f1 := hrow.free 1 (by omega)
      have f2 := hrow.free 2 (by omega)
      simp only [Nat.zero_mul, Nat.zero_add] at q0 q1 q2
      have HROW := hid hrow
      clear hrow HO6
      generalize V[0].fr = y7 at *
      generalize V[0].lg = y8 at *
      generalize V[0].tx = y9 at *
      have hRB : R ≠ B := by omega
      go_wp2_with fail
      go_ret
      have HN : Hid (PtRow R (V.set 0 ⟨x - 1, y, D⟩) (((w6.setCell ⟨R, 0, none⟩ (.int .i64 (x - 1))).setCell ⟨R, 1, none⟩ (.int .i64 y)).setCell ⟨R, 2, none⟩ (.string D))) := by
        show PtRow _ _ _
        have := HROW.out.set 0 hV ⟨x - 1, y, D⟩
        simpa using this
      refine ⟨⟨some ⟨R, 0, none⟩, c2, V.set 0 ⟨x - 1, y, D⟩, by rw [List.length_set]; rfl, by rw [List.length_set]; exact hl2, ?_, ?_⟩, ?_, ?_⟩
      · intro p hp
        rcases List.mem_or_eq_of_mem_set hp with hp | rfl
        · exact HSM.out p hp
        · unfold SmP; simp only; omega
      · exact Or.inr ⟨R, r1, HN.out.lt, rfl, HN.out⟩
      · exact ((((HC6.out.setOther hRB 0 _).setOther hRB 1 _).setOther hRB 2 _)).mono (by omega)
      · exact ((HB6.out.setNew r1 0 _).setNew r1 1 _).setNew r1 2 _
  · have hd : decide ((0 : Int) < (V.length : Int)) = false := decide_eq_false (by omega)
    go_wp2_with fail
    go_ret
    exact ⟨⟨b2, c2, V, rfl, hl2, HSM.out, HO2.out⟩, HC2.out.mono (by omega), HB2.out⟩
end Go.Proofs.Ytfkcfachbfbmpaa
