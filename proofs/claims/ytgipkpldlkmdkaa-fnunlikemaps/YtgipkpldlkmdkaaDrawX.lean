/- Walks of the cursor's places. -/
import Derived.Test.YtgipkpldlkmdkaaCurR
import Derived.Test.YtgipkpldlkmdkaaSPl
namespace Go.Proofs.Ytgipkpldlkmdkaa
set_option maxRecDepth 100000
open Go.ChangeShapes Go.WideShapes Go.ChangeAt Go.RowKit G00541
theorem hid3 {p : Prop} (h : p) : Hid p := h
theorem But.on {B B0 : Nat} {w w2 w9 : World} (h : But B w w2) (g : Below B0 w2 w9) (h0 : w.heap.size ≤ B0) : But B w w9 :=
  ⟨g.os.trans h.os, g.tape.trans h.tape, g.output.trans h.output, Nat.le_trans h.size g.size, fun k hk hB => (g.block k (by omega)).trans (h.block k hk hB)⟩
theorem Cur.on {B B0 N : Nat} {sv : Value} {w2 w9 : World} (h : Cur B N sv w2) (g : Below B0 w2 w9) (h0 : B < B0) : Cur B N sv w9 := by
  have hc : ∀ i, w9.cell? ⟨B, i, none⟩ = w2.cell? ⟨B, i, none⟩ := fun i => g.cell (p := ⟨B, i, none⟩) h0
  have hf : ∀ i, w9.frozen? ⟨B, i, none⟩ = w2.frozen? ⟨B, i, none⟩ := fun i => g.frozen (p := ⟨B, i, none⟩) h0
  obtain ⟨p, p0, p1, hp⟩ := h.place
  obtain ⟨s, s0, s1, hs⟩ := h.seed
  exact ⟨Nat.lt_of_lt_of_le h.lt g.size, (hc 0).trans h.code, ⟨p, p0, p1, (hc 1).trans hp⟩, ⟨s, s0, s1, (hc 2).trans hs⟩, (hf 1).trans h.free1, (hf 2).trans h.free2⟩
theorem own_but {B B0 : Nat} {w w' : World} {e : TypeId} {s : Nat} {v : Value} {n : Nat} {l : List Value} (h : w.ownsRow B0 e s v n l) (g : But B w w') (hB : B < B0) : w'.ownsRow B0 e s v n l :=
  h.kept (row := some B) ⟨g.os, g.tape, g.output, g.size, fun j hj hne => g.block j hj (fun e => hne (by rw [e]))⟩ (by
    cases hb : v.ownBlock with
    | none => exact Or.inl rfl
    | some x => exact Or.inr (fun e => by have := (h.lt x hb).1; cases e; omega))
theorem IRow.but {R B : Nat} {l : List Int} {w w' : World} (h : IRow R l w) (g : But B w w') (hR : R ≠ B) : IRow R l w' := h.same g.size (g.block R h.lt hR)
/-- each number small -/
def Small (l : List Int) : Prop := ∀ x ∈ l, -20000 ≤ x ∧ x ≤ 20000
theorem Small.snoc {l : List Int} (h : Small l) (x : Int) (h0 : -20000 ≤ x) (h1 : x ≤ 20000) : Small (l ++ [x]) := fun y hy => by
  rcases List.mem_append.1 hy with hy | hy
  · exact h y hy
  · rw [List.mem_singleton] at hy; subst hy; exact ⟨h0, h1⟩
theorem Small.set {l : List Int} (h : Small l) (k : Nat) (x : Int) (h0 : -20000 ≤ x) (h1 : x ≤ 20000) : Small (l.set k x) := fun y hy => by
  rcases List.mem_or_eq_of_mem_set hy with hy | rfl
  · exact h y hy
  · exact ⟨h0, h1⟩
set_option maxHeartbeats 4000000 in
theorem places_any (B N len cap : Nat) (a : Option Addr) (w : World) (hN : N ≤ 900000) (hC : Cur B N (.slice a len cap) w) (hK : Code B len cap a w) :
    Calls Try.prog 31 #[.pointer (some ⟨B, 0, none⟩)] w fun e w' => ∃ (l : List Int) (R c : Nat), e = .returned (.slice (some ⟨R, 0, none⟩) 16 c) ∧ w.heap.size ≤ R ∧ l.length = 16 ∧ Small l ∧ IRow R l w' ∧ 16 ≤ c ∧ Cur B (N + 100) (.slice a len cap) w' ∧ But B w w' := by
  obtain ⟨i0, hi, hz0, hz1, hz2⟩ := info_parts infoInt
  have hlt := hC.lt
  have HC : Hid (Cur B N (.slice a len cap) w) := hC
  have HK : Hid (Code B len cap a w) := hK
  clear hC hK
  go_enter Try.func31, Try.ntmps31
  go_wp2_with fail
  refine (pick_any _ B N len cap a _ (by omega) (by omega) (by omega) HC.out HK.out).mono ?_
  rintro e w1 ⟨n, rfl, n0, n1, hC1, hB1⟩
  have HC1 : Hid (Cur B (N + 2) (.slice a len cap) w1) := hC1
  have HB1 : Hid (But B w w1) := hB1
  clear hC1 hB1 HC
  go_wp2
  go_loopw [3, 4, 5] (fun o q i wr => ∃ (k : Nat) (l : List Int) (o1 : Value) (p : Int), k ≤ 16 ∧ l.length = k ∧ o = o1 ∧ q = .int .i64 p ∧ i = .int .i64 k ∧ 0 ≤ p ∧ p ≤ 60 + k ∧ Small l ∧ wr.ownsRow w.heap.size 3 1 o1 l.length (ivals l) ∧ Cur B (N + 2 + 4 * k) (.slice a len cap) wr ∧ But B w wr) (fun _ _ i _ => 16 - (intOf i).toNat)
  case atStart => exact ⟨0, [], _, n, by omega, rfl, rfl, rfl, rfl, n0, by omega, (fun _ h => by cases h), World.ownsRow_nil _ _ _ _, HC1.out, HB1.out⟩
  case round =>
    clear HC1 HB1
    obtain ⟨k, l, _, p, hk, hl, rfl, rfl, rfl, p0, p1, hsm, hown, hcur, hbut⟩ := hrel
    have HSM : Hid (Small l) := hsm
    have HOWN : Hid (wr.ownsRow w.heap.size 3 1 u3 l.length (ivals l)) := hown
    have HCUR : Hid (Cur B (N + 2 + 4 * k) (.slice a len cap) wr) := hcur
    have HBUT : Hid (But B w wr) := hbut
    have HCODE : Hid (Code B len cap a wr) := HK.out.but hbut (Nat.le_refl _) (by omega)
    have hszr := hbut.size
    clear hsm hcur hbut
    by_cases hkl : k < 16
    · clear hown
      have HL : Hid (l.length = k) := hl
      have hlb : l.length ≤ 16 := by omega
      have HC3 : Hid (l.length + 1 ≤ maxLen ∧ (l.length + 1) * 8 ≤ 140737488355328) := ⟨by unfold maxLen; omega, by omega⟩
      clear hl
      go_wp2_with fail
      refine (pick_any _ B _ len cap a _ (by omega) (by omega) (by omega) HCUR.out HCODE.out).mono ?_
      rintro e w2 ⟨v, rfl, v0, v1, hC2, hB2⟩
      have hs2 : w.heap.size ≤ w2.heap.size := Nat.le_trans hszr hB2.size
      have HO2 : Hid (w2.ownsRow w.heap.size 3 1 u3 l.length (ivals l)) := own_but HOWN.out hB2 hlt
      have HC2 : Hid (Cur B (N + 2 + 4 * k + 2) (.slice a len cap) w2) := hC2
      have HB2 : Hid (But B w w2) := HBUT.out.trans hB2
      have HK2 : Hid (Code B len cap a w2) := HCODE.out.but hB2 (Nat.le_refl _) (by omega)
      clear hC2 hB2 HCUR HBUT HCODE HOWN
      by_cases h0 : v = 0
      · have hd0 : (v == 0) = true := beq_iff_eq.2 h0
        clear h0
        go_wp2_with (at_builtin; refine wpList_append_own _ rfl (.tmp 22) (.tmp 23) 23 rfl w.heap.size 3 i0 _ 1 8 Try.underlying23 hi hz0 hz1 hz2 rfl (by decide) u3 l.length (ivals l) rfl ?own ⟨w2.heap.size, 0, none⟩ 1 1 [.int .i64 (-1)] rfl rfl ?news ?one HC3.out.1 HC3.out.2 ?c5 ?_)
        case own => exact HO2.out.alloc _
        case news =>
          intro j u hj
          match j, hj with
          | 0, hj => simp at hj; subst hj; go_simp
        case one => intro u hu; simp at hu; subst hu; rfl
        case c5 => simp; omega
        intro v' w9 hown9 hgrow hnil
        have hb9 : Below w.heap.size w2 w9 := ((Below.refl w.heap.size w2).alloc hs2 _).grown hgrow (by simp; omega) (fun j hj => (HO2.out.lt j hj).1)
        have HOWN9 : Hid (w9.ownsRow w.heap.size 3 1 v' (l ++ [(-1)]).length (ivals (l ++ [(-1)]))) := by
          show w9.ownsRow w.heap.size 3 1 v' (l ++ [(-1)]).length (ivals (l ++ [(-1)]))
          rw [ivals_snoc, List.length_append]
          exact hown9
        have HB9 : Hid (But B w w9) := HB2.out.on hb9 (Nat.le_refl _)
        have HC9 : Hid (Cur B (N + 2 + 4 * k + 2) (.slice a len cap) w9) := HC2.out.on hb9 hlt
        clear hown9 hgrow hnil hb9
        go_wp2
        go_roundw
        case rel => exact ⟨k + 1, l ++ [-1], _, p, by omega, by rw [List.length_append, HL.out]; rfl, rfl, rfl, by go_num, p0, by omega, HSM.out.snoc _ (by omega) (by omega), HOWN9.out, HC9.out.mono (by omega), HB9.out⟩
        case measure => simp [intOf]; omega
      · have hd0 : (v == 0) = false := beq_eq_false_iff_ne.2 h0
        by_cases h1 : v = 1
        · have hd1 : (v == 1) = true := beq_iff_eq.2 h1
          clear h0 h1
          go_wp2_with fail
          refine (pick_any _ B _ len cap a _ (by omega) (by omega) (by omega) HC2.out HK2.out).mono ?_
          rintro e w3 ⟨x, rfl, x0, x1, hC3, hB3⟩
          have hs3 : w.heap.size ≤ w3.heap.size := Nat.le_trans hs2 hB3.size
          have HO3 : Hid (w3.ownsRow w.heap.size 3 1 u3 l.length (ivals l)) := own_but HO2.out hB3 hlt
          have HCC3 : Hid (Cur B (N + 2 + 4 * k + 4) (.slice a len cap) w3) := hC3
          have HB3 : Hid (But B w w3) := HB2.out.trans hB3
          clear hC3 hB3 HO2 HC2 HB2 HK2 hs2
          go_wp2_with (at_builtin; refine wpList_append_own _ rfl (.tmp 29) (.tmp 31) 23 rfl w.heap.size 3 i0 _ 1 8 Try.underlying23 hi hz0 hz1 hz2 rfl (by decide) u3 l.length (ivals l) rfl ?own ⟨w3.heap.size, 0, none⟩ 1 1 [.int .i64 x] rfl rfl ?news ?one HC3.out.1 HC3.out.2 ?c5 ?_)
          case own => exact HO3.out.alloc _
          case news =>
            intro j u hj
            match j, hj with
            | 0, hj => simp at hj; subst hj; go_simp
          case one => intro u hu; simp at hu; subst hu; rfl
          case c5 => simp; omega
          intro v' w9 hown9 hgrow hnil
          have hb9 : Below w.heap.size w3 w9 := ((Below.refl w.heap.size w3).alloc hs3 _).grown hgrow (by simp; omega) (fun j hj => (HO3.out.lt j hj).1)
          have HOWN9 : Hid (w9.ownsRow w.heap.size 3 1 v' (l ++ [x]).length (ivals (l ++ [x]))) := by
            show w9.ownsRow w.heap.size 3 1 v' (l ++ [x]).length (ivals (l ++ [x]))
            rw [ivals_snoc, List.length_append]
            exact hown9
          have HB9 : Hid (But B w w9) := HB3.out.on hb9 (Nat.le_refl _)
          have HC9 : Hid (Cur B (N + 2 + 4 * k + 4) (.slice a len cap) w9) := HCC3.out.on hb9 hlt
          clear hown9 hgrow hnil hb9
          go_wp2
          go_roundw
          case rel => exact ⟨k + 1, l ++ [x], _, x, by omega, by rw [List.length_append, HL.out]; rfl, rfl, rfl, by go_num, x0, by omega, HSM.out.snoc _ (by omega) (by omega), HOWN9.out, HC9.out.mono (by omega), HB9.out⟩
          case measure => simp [intOf]; omega
        · have hd1 : (v == 1) = false := beq_eq_false_iff_ne.2 h1
          clear h0 h1
          go_wp2_with (at_builtin; refine wpList_append_own _ rfl (.tmp 16) (.tmp 18) 23 rfl w.heap.size 3 i0 _ 1 8 Try.underlying23 hi hz0 hz1 hz2 rfl (by decide) u3 l.length (ivals l) rfl ?own ⟨w2.heap.size, 0, none⟩ 1 1 [.int .i64 (p + 1)] rfl rfl ?news ?one HC3.out.1 HC3.out.2 ?c5 ?_)
          case own => exact HO2.out.alloc _
          case news =>
            intro j u hj
            match j, hj with
            | 0, hj => simp at hj; subst hj; go_simp
          case one => intro u hu; simp at hu; subst hu; rfl
          case c5 => simp; omega
          intro v' w9 hown9 hgrow hnil
          have hb9 : Below w.heap.size w2 w9 := ((Below.refl w.heap.size w2).alloc hs2 _).grown hgrow (by simp; omega) (fun j hj => (HO2.out.lt j hj).1)
          have HOWN9 : Hid (w9.ownsRow w.heap.size 3 1 v' (l ++ [(p + 1)]).length (ivals (l ++ [(p + 1)]))) := by
            show w9.ownsRow w.heap.size 3 1 v' (l ++ [(p + 1)]).length (ivals (l ++ [(p + 1)]))
            rw [ivals_snoc, List.length_append]
            exact hown9
          have HB9 : Hid (But B w w9) := HB2.out.on hb9 (Nat.le_refl _)
          have HC9 : Hid (Cur B (N + 2 + 4 * k + 2) (.slice a len cap) w9) := HC2.out.on hb9 hlt
          clear hown9 hgrow hnil hb9
          go_wp2
          go_roundw
          case rel => exact ⟨k + 1, l ++ [p + 1], _, p + 1, by omega, by rw [List.length_append, HL.out]; rfl, rfl, rfl, by go_num, by omega, by omega, HSM.out.snoc _ (by omega) (by omega), HOWN9.out, HC9.out.mono (by omega), HB9.out⟩
          case measure => simp [intOf]; omega
    · obtain rfl : k = 16 := by omega
      obtain ⟨R, c, e, hR, hrow⟩ := own_irow hown (by omega)
      have hcap : 16 ≤ c := by
        rcases hown.2 with ⟨h1, h2⟩ | ⟨g, cp, cur, e2, _, _, h3, _⟩
        · omega
        · rw [e] at e2
          simp at e2
          omega
      rw [hl] at e
      subst e
      have HL : Hid (l.length = 16) := hl
      have HROW : Hid (IRow R l wr) := hrow
      clear hown hrow HOWN hl
      have hRB : R ≠ B := by omega
      go_wp2_with fail
      refine (one_any _ B _ len cap a _ (by omega) (by omega) (by omega) HCUR.out HCODE.out).mono ?_
      rintro e w2 ⟨v, rfl, hC2, hB2⟩
      have HR2 : Hid (IRow R l w2) := HROW.out.but hB2 hRB
      have HC2 : Hid (Cur B (N + 2 + 4 * 16 + 2) (.slice a len cap) w2) := hC2
      have HB2 : Hid (But B w w2) := HBUT.out.trans hB2
      have HK2 : Hid (Code B len cap a w2) := HCODE.out.but hB2 (Nat.le_refl _) (by omega)
      have hs2 : w.heap.size ≤ w2.heap.size := Nat.le_trans hszr hB2.size
      clear hC2 hB2 HCUR HBUT HCODE HROW
      cases v
      · go_wp2
        go_ret
        first
          | exact ⟨l, R, c, rfl, hR, HL.out, HSM.out, HR2.out, hcap, HC2.out.mono (by omega), HB2.out⟩
          | exact ⟨l, R, ⟨c, rfl, hR, HL.out, HSM.out, HR2.out, hcap, HC2.out.mono (by omega), HB2.out⟩⟩
      · go_wp2_with fail
        refine (pick_any _ B _ len cap a _ (by omega) (by omega) (by omega) HC2.out HK2.out).mono ?_
        rintro e w3 ⟨j, rfl, j0, j1, hC3, hB3⟩
        have HR3 : Hid (IRow R l w3) := HR2.out.but hB3 hRB
        have HC3 : Hid (Cur B (N + 2 + 4 * 16 + 2 + 2) (.slice a len cap) w3) := hC3
        have HB3 : Hid (But B w w3) := HB2.out.trans hB3
        have HK3 : Hid (Code B len cap a w3) := HK2.out.but hB3 (Nat.le_refl _) (by omega)
        have hs3 : w.heap.size ≤ w3.heap.size := Nat.le_trans hs2 hB3.size
        have hR3 := HR3.out.lt
        clear hC3 hB3 HC2 HB2 HK2 HR2
        have hLn : w3.heap.size ≠ B := by omega
        have HZ := hid3 (fun i h => lits_at [-2, 10000, 10001] w3 i h)
        go_wp2_with fail
        refine (among_any [-2, 10000, 10001] 3 w3.heap.size B _ len cap 3 a _ rfl (by decide) (by decide) (by simp) hLn HZ.out (by omega) (HC3.out.alloc _) (HK3.out.but ((But.refl B w3).alloc _) (Nat.le_refl _) (by omega))).mono ?_
        rintro e w4 ⟨i, hi4, rfl, hC4, hB4⟩
        have HR4 : Hid (IRow R l w4) := (HR3.out.below ((Below.refl _ _).alloc (Nat.le_refl _) _)).but hB4 hRB
        have HC4 : Hid (Cur B (N + 2 + 4 * 16 + 2 + 2 + 2) (.slice a len cap) w4) := hC4
        have HB4 : Hid (But B w w4) := (HB3.out.alloc _).trans hB4
        have hx : -20000 ≤ ([-2, 10000, 10001] : List Int).getD i 0 ∧ ([-2, 10000, 10001] : List Int).getD i 0 ≤ 20000 := by
          match i, hi4 with
          | 0, _ => decide
          | 1, _ => decide
          | 2, _ => decide
        generalize ([-2, 10000, 10001] : List Int).getD i 0 = x at *
        have y0 := HR4.out.cell j.toNat (by rw [HL.out]; omega)
        have f0 := HR4.out.free j.toNat (by rw [HL.out]; omega)
        have hj2 : j < 16 := by omega
        clear hC4 hB4 HC3 HB3 HK3 HR3 HZ
        go_wp2
        go_ret
        have hfin : IRow R (l.set j.toNat x) (w4.setCell ⟨R, j.toNat, none⟩ (.int .i64 x)) := HR4.out.set j.toNat (by rw [HL.out]; omega) x
        have hcu : Cur B (N + 100) (.slice a len cap) (w4.setCell ⟨R, j.toNat, none⟩ (.int .i64 x)) := (HC4.out.setOther hRB _ _).mono (by omega)
        have hbu : But B w (w4.setCell ⟨R, j.toNat, none⟩ (.int .i64 x)) := HB4.out.setNew hR _ _
        first
          | exact ⟨l.set j.toNat x, R, c, rfl, hR, by rw [List.length_set]; exact HL.out, HSM.out.set _ _ hx.1 hx.2, hfin, hcap, hcu, hbu⟩
          | exact ⟨l.set j.toNat x, R, ⟨c, rfl, hR, by rw [List.length_set]; exact HL.out, HSM.out.set _ _ hx.1 hx.2, hfin, hcap, hcu, hbu⟩⟩
end Go.Proofs.Ytgipkpldlkmdkaa
