/- What is drawn: sets, sums. -/
import Derived.Test.YtipeillhafcliaaADrw
import Derived.Test.YtipeillhafcliaaJPut
import Derived.Deep.DeepCutAuto
import Derived.Deep.RegionHeldLaw
namespace Go.Proofs.Ytipeillhafcliaa
set_option maxRecDepth 100000
open Go Go.ChangeShapes Go.WideShapes Go.ChangeAt Go.RowKit
/-- a list drawn, in memory of its own -/
def DrOut (B N : Nat) (sv : Value) (n : Nat) (w : World) (e : Ending) (w' : World) : Prop := ∃ (v : Value) (l : List Int), e = .returned v ∧ l.length ≤ n ∧ AL w.heap.size v l w' ∧ Cur B N sv w' ∧ But B w w'
set_option maxHeartbeats 4000000 in
/-- the loop of a set's numbers and what follows, from n numbers on -/
theorem set_any (B N len cap : Nat) (a : Option Addr) (w : World) (hN : N ≤ 900000) (hC : Cur B N (.slice a len cap) w) (hK : Code B len cap a w) :
    Calls Try.prog 29 #[.pointer (some ⟨B, 0, none⟩)] w (DrOut B (N + 300) (.slice a len cap) 40 w) := by
  have hlt := hC.lt
  have HC := hid hC
  have HK := hid hK
  clear hC hK
  go_enter Try.func29, Try.ntmps29
  go_wp2_with fail
  refine (pick_any _ B N len cap a _ (by omega) (by omega) (by omega) HC.out HK.out).mono ?_
  rintro e w1 ⟨n, rfl, n0, n1, hC1, hB1⟩
  have HC1 := hid hC1
  have HB1 := hid hB1
  have HK1 : Hid (Code B len cap a w1) := HK.out.but hB1 (Nat.le_refl _) (by omega)
  clear hC1 hB1 HC
  go_wp2_with fail
  refine (one_any _ B (N + 2) len cap a _ (by omega) (by omega) (by omega) HC1.out HK1.out).mono ?_
  rintro e w2 ⟨v2, rfl, hC2, hB2⟩
  have HC2 := hid hC2
  have HB2 : Hid (But B w w2) := HB1.out.trans hB2
  clear hC2 hB2 HC1 HB1 HK1
  obtain ⟨J9, hJ9⟩ : ∃ J9 : Nat, n = (J9 : Int) := ⟨n.toNat, by omega⟩
  subst hJ9
  go_upto_if 8 with fail
  go_cut [4] (fun s wc => ∃ j : Nat, s = .int .i64 (j : Int) ∧ j ≤ 40 ∧ wc = w2)
  case first =>
    as_aux_lemma =>
      cases v2
      · go_wp2_with fail
        go_meet
        case rel => exact ⟨J9, rfl, by omega, rfl⟩
      · go_wp2_with fail
        go_meet
        case rel => exact ⟨40, rfl, by omega, rfl⟩
  case rest =>
    as_aux_lemma =>
      obtain ⟨J0, rfl, hJ0, hw2⟩ := hcut
      subst hw2
      go_wp2_with fail
      go_loopw [3, 4] (fun o n wr => ∃ (j : Nat) (l : List Int) (o1 : Value), o = o1 ∧ n = .int .i64 (j : Int) ∧ l.length + j ≤ 40 ∧ AL w.heap.size o1 l wr ∧ Cur B (N + 4 + 4 * (40 - j)) (.slice a len cap) wr ∧ But B w wr) (fun _ n _ => (intOf n).toNat)
      case atStart => exact ⟨J0, [], _, rfl, rfl, by simpa using hJ0, AL.nil _ _, HC2.out.mono (by omega), HB2.out⟩
      case round =>
        clear HC2 HB2
        obtain ⟨j, l, _, rfl, rfl, hj, hown, hcur, hbut⟩ := hrel
        have HOWN := hid hown
        have HCUR := hid hcur
        have HBUT := hid hbut
        have HCODE : Hid (Code B len cap a wr) := HK.out.but hbut (Nat.le_refl _) (by omega)
        have hszr := hbut.size
        clear hown hcur hbut
        obtain ⟨aR, cR, e5, _, hcR⟩ := HOWN.out.own
        subst e5
        go_upto_region 5 with fail
        go_cut [19] (fun s wc => ∃ b : Bool, s = .bool b ∧ (b = true → 0 < j) ∧ AL w.heap.size (.slice aR l.length cR) l wc ∧ Cur B (N + 4 + 4 * (40 - j) + 2) (.slice a len cap) wc ∧ But B w wc)
        case first =>
          as_aux_lemma =>
            by_cases hj1 : 0 < j
            · have hd : decide ((0 : Int) < (j : Int)) = true := decide_eq_true (by omega)
              go_wp2_with fail
              refine (pick_any _ B _ len cap a _ (by omega) (by omega) (by omega) HCUR.out HCODE.out).mono ?_
              rintro e w3 ⟨x, rfl, x0, x1, hC3, hB3⟩
              have HO3 := hid (HOWN.out.but hB3 hlt)
              have HC3 := hid hC3
              have HB3 : Hid (But B w w3) := HBUT.out.trans hB3
              clear hC3 hB3 HCUR HBUT HCODE HOWN
              go_wp2_with fail
              go_meet
              case rel => exact ⟨_, rfl, fun _ => hj1, HO3.out, HC3.out, HB3.out⟩
            · have hd : decide ((0 : Int) < (j : Int)) = false := decide_eq_false (by omega)
              go_wp2_with fail
              go_meet
              case rel => exact ⟨_, rfl, (fun h => by cases h), HOWN.out, HCUR.out.mono (by omega), HBUT.out⟩
        case rest =>
          as_aux_lemma =>
            clear HOWN HCUR HBUT HCODE
            obtain ⟨b, rfl, hb, hown, hcur, hbut⟩ := hcut
            have HOWN := hid hown
            have HCUR := hid hcur
            have HBUT := hid hbut
            have HCODE := hid (HK.out.but hbut (Nat.le_refl _) (by omega))
            have hszr := hbut.size
            clear hown hcur hbut
            cases b
            · have hj40 : l.length ≤ 40 := by omega
              clear hb hj
              by_cases hl0 : 0 < l.length
              · have hd2 : decide ((0 : Int) < (l.length : Int)) = true := decide_eq_true (by omega)
                rcases HOWN.out.form with ⟨_, e⟩ | ⟨R, c, e, hc, hR⟩
                · rw [e] at hl0; exact absurd hl0 (Nat.lt_irrefl _)
                injection e with e1 _ e3
                subst e1; subst e3
                go_wp2_with fail
                refine (one_any _ B _ len cap a _ (by omega) (by omega) (by omega) HCUR.out HCODE.out).mono ?_
                rintro e w4 ⟨v4, rfl, hC4, hB4⟩
                have hs4 : w.heap.size ≤ w4.heap.size := Nat.le_trans hszr hB4.size
                have HO4 := hid (HOWN.out.but hB4 hlt)
                have HC4 := hid hC4
                have HB4 : Hid (But B w w4) := HBUT.out.trans hB4
                have HK4 : Hid (Code B len cap a w4) := HCODE.out.but hB4 (Nat.le_refl _) (by omega)
                clear hC4 hB4 HCUR HBUT HCODE HOWN
                cases v4
                · go_wp2
                  go_ret
                  exact ⟨_, l, rfl, by omega, HO4.out, HC4.out.mono (by omega), HB4.out⟩
                · have HL : Hid (∀ i, i < [0, 61].length → (w4.alloc (.cells #[.int .i64 0, .int .i64 61] 3)).cell? ⟨w4.heap.size, i, none⟩ = some (.int .i64 (([0, 61] : List Int).getD i 0))) := fun i hi => lits_at [0, 61] w4 i hi
                  have hB4s := HB4.out.size
                  go_wp2_with fail
                  refine (among_any [0, 61] 2 w4.heap.size B _ len cap 2 a _ rfl (by decide) (by decide) (by simp) (by omega) HL.out (by omega) (HC4.out.alloc _) (HK4.out.but ((But.refl B w4).alloc _) (Nat.le_refl _) (by omega))).mono ?_
                  rintro e w5 ⟨i, _, rfl, hC5, hB5⟩
                  have hbx := boxB w4 (.cells #[.int .i64 0, .int .i64 61] 3)
                  have o5 := (HO4.out.below hbx).but hB5 hlt
                  have HC5 := hid hC5
                  have HB5 : Hid (But B w w5) := (HB4.out.alloc _).trans hB5
                  obtain ⟨R2, c2, e2, hR2, hrow, _⟩ := own_irow o5 hl0
                  injection e2 with e2 _ e3
                  subst e3
                  injection e2 with e2
                  injection e2 with e2 _ _
                  subst e2
                  have x0 := hrow.cell 0 hl0
                  have f0 := hrow.free 0 hl0
                  generalize ([0, 61] : List Int).getD i 0 = z at *
                  have h6 := o5.put z
                  rw [List.length_set] at h6
                  have HO6 := hid h6
                  clear h6
                  have g6 : Below w.heap.size w5 (w5.setCell ⟨R, 0, none⟩ (.int .i64 z)) := setB (Below.refl _ _) R 0 hR _
                  have HC6 := hid (HC5.out.on g6 hlt)
                  have HB6 : Hid (But B w (w5.setCell ⟨R, 0, none⟩ (.int .i64 z))) := HB5.out.on g6 (Nat.le_refl _)
                  have HSL : Hid ((l.set 0 z).length = l.length) := by show _ = _; exact List.length_set
                  clear hC5 hB5 hbx o5 hrow HL HO4 HC4 HB4 HK4 g6 HC5 HB5
                  go_wp2
                  go_ret
                  exact ⟨_, l.set 0 z, rfl, by rw [HSL.out]; omega, HO6.out, HC6.out.mono (by omega), HB6.out⟩
              · have hd2 : decide ((0 : Int) < (l.length : Int)) = false := decide_eq_false (by omega)
                go_wp2
                go_ret
                exact ⟨_, l, rfl, by omega, HOWN.out, HCUR.out.mono (by omega), HBUT.out⟩
            · have hj1 := hb rfl
              go_wp2_with fail
              refine (pick_any _ B _ len cap a _ (by omega) (by omega) (by omega) HCUR.out HCODE.out).mono ?_
              rintro e w3 ⟨x, rfl, x0, x1, hC3, hB3⟩
              have hs3 : w.heap.size ≤ w3.heap.size := Nat.le_trans hszr hB3.size
              have HO3 := hid (HOWN.out.but hB3 hlt)
              have HC3 := hid hC3
              have HB3 : Hid (But B w w3) := HBUT.out.trans hB3
              clear hC3 hB3 HCUR HBUT HCODE HOWN
              go_wp2_with fail
              refine (put_anyJ w.heap.size _ l _ w3 (by omega) hs3 HO3.out).mono ?_
              rintro e w4 ⟨v4, l4, rfl, hl4, o4, g4⟩
              have HO4 := hid o4
              have HC4 := hid (HC3.out.on g4 (by omega))
              have HB4 := hid (HB3.out.on g4 hs3)
              clear o4 g4 HO3 HC3 HB3
              go_wp2_with fail
              go_roundw
              case rel => exact ⟨j - 1, l4, _, rfl, by rw [show ((j - 1 : Nat) : Int) = (j : Int) - 1 from by omega], by omega, HO4.out, HC4.out.mono (by omega), HB4.out⟩
              case measure => simp [intOf]; omega
theorem OwnJ.but {B lo hi : Nat} {a : Option Addr} {l : List Int} {w w' : World} (h : OwnJ lo hi a l w) (g : But B w w') (hB : B < lo) : OwnJ lo hi a l w' := by
  rcases h with h | ⟨R, off, pre, h1, h3, e, hp, hr⟩
  · exact Or.inl h
  · exact Or.inr ⟨R, off, pre, h1, h3, e, hp, hr.same g.size (g.block R hr.lt (by omega))⟩
theorem OwnJ.put {lo hi k : Nat} {a : Option Addr} {l : List Int} {w : World} (h : OwnJ lo hi a l w) (h0 : k < l.length) : ∃ R off, a = some ⟨R, off, none⟩ ∧ lo ≤ R ∧ R < w.heap.size ∧ w.cell? ⟨R, off + k, none⟩ = some (.int .i64 l[k]) ∧ w.frozen? ⟨R, off + k, none⟩ = false ∧ ∀ x, OwnJ lo hi a (l.set k x) (w.setCell ⟨R, off + k, none⟩ (.int .i64 x)) := by
  rcases h with rfl | ⟨R, off, pre, h1, h3, rfl, hp, hr⟩
  · exact absurd h0 (Nat.not_lt_zero _)
  · have hl : off + k < (pre ++ l).length := by rw [List.length_append, hp]; omega
    have hc := hr.cell (off + k) hl
    rw [List.getElem_append_right (by omega)] at hc
    have e0 : off + k - pre.length = k := by omega
    refine ⟨R, off, rfl, h1, hr.lt, ?_, hr.free (off + k) hl, fun x => Or.inr ⟨R, off, pre, h1, h3, rfl, hp, ?_⟩⟩
    · simp only [e0] at hc
      exact hc
    · have hs := hr.set (off + k) hl x
      rw [List.set_append_right _ _ (by omega), e0] at hs
      exact hs
/-- a list drawn, in memory of its own, at whatever place of its row -/
def DrJ (B N : Nat) (sv : Value) (n : Nat) (w : World) (e : Ending) (w' : World) : Prop := ∃ (b : Option Addr) (c : Nat) (l : List Int), e = .returned (.slice b l.length c) ∧ l.length ≤ n ∧ l.length ≤ c ∧ OwnJ w.heap.size w'.heap.size b l w' ∧ Cur B N sv w' ∧ But B w w'
set_option maxHeartbeats 4000000 in
theorem sums_any (B N len cap : Nat) (a : Option Addr) (w : World) (hN : N ≤ 900000) (hC : Cur B N (.slice a len cap) w) (hK : Code B len cap a w) :
    Calls Try.prog 40 #[.pointer (some ⟨B, 0, none⟩)] w (DrJ B (N + 300) (.slice a len cap) 4 w) := by
  have hlt := hC.lt
  have HC := hid hC
  have HK := hid hK
  clear hC hK
  go_enter Try.func40, Try.ntmps40
  go_wp2_with fail
  refine (pick_any _ B N len cap a _ (by omega) (by omega) (by omega) HC.out HK.out).mono ?_
  rintro e w1 ⟨n, rfl, n0, n1, hC1, hB1⟩
  have HC1 := hid hC1
  have HB1 := hid hB1
  clear hC1 hB1 HC
  obtain ⟨J9, hJ9⟩ : ∃ J9 : Nat, n = (J9 : Int) := ⟨n.toNat, by omega⟩
  subst hJ9
  go_wp2_with fail
  go_loopw [3, 4] (fun o n wr => ∃ (j : Nat) (l : List Int) (o1 : Value), o = o1 ∧ n = .int .i64 (j : Int) ∧ l.length + j ≤ 4 ∧ AL w.heap.size o1 l wr ∧ Cur B (N + 2 + 4 * (4 - j)) (.slice a len cap) wr ∧ But B w wr) (fun _ n _ => (intOf n).toNat)
  case atStart => exact ⟨J9, [], _, rfl, rfl, by simp; omega, AL.nil _ _, HC1.out.mono (by omega), HB1.out⟩
  case round =>
    clear HC1 HB1
    obtain ⟨j, l, _, rfl, rfl, hj, hown, hcur, hbut⟩ := hrel
    have HOWN := hid hown
    have HCUR := hid hcur
    have HBUT := hid hbut
    have HCODE : Hid (Code B len cap a wr) := HK.out.but hbut (Nat.le_refl _) (by omega)
    have hszr := hbut.size
    clear hown hcur hbut
    by_cases hj1 : 0 < j
    · have hd : decide ((0 : Int) < (j : Int)) = true := decide_eq_true (by omega)
      go_wp2_with fail
      refine (pick_any _ B _ len cap a _ (by omega) (by omega) (by omega) HCUR.out HCODE.out).mono ?_
      rintro e w3 ⟨x, rfl, x0, x1, hC3, hB3⟩
      have hs3 : w.heap.size ≤ w3.heap.size := Nat.le_trans hszr hB3.size
      have HO3 := hid (HOWN.out.but hB3 hlt)
      have HC3 := hid hC3
      have HB3 : Hid (But B w w3) := HBUT.out.trans hB3
      clear hC3 hB3 HCUR HBUT HCODE HOWN
      go_wp2_with fail
      refine (put_anyJ w.heap.size _ l _ w3 (by omega) hs3 HO3.out).mono ?_
      rintro e w4 ⟨v4, l4, rfl, hl4, o4, g4⟩
      have HO4 := hid o4
      have HC4 := hid (HC3.out.on g4 (by omega))
      have HB4 := hid (HB3.out.on g4 hs3)
      clear o4 g4 HO3 HC3 HB3
      go_wp2_with fail
      go_roundw
      case rel => exact ⟨j - 1, l4, _, rfl, by rw [show ((j - 1 : Nat) : Int) = (j : Int) - 1 from by omega], by omega, HO4.out, HC4.out.mono (by omega), HB4.out⟩
      case measure => simp [intOf]; omega
    · obtain rfl : j = 0 := by omega
      have hd : decide ((0 : Int) < ((0 : Nat) : Int)) = false := by decide
      obtain ⟨aR, cR, e5, ho, hcR⟩ := HOWN.out.own
      subst e5
      have HSS := hid (sSums_any aR cR l (l.length : Int) wr (by omega) ho.is)
      have hl4 : l.length ≤ 4 := by omega
      have HVL := hid (symV_len l (l.length : Int))
      generalize symV l (l.length : Int) = V at *
      clear ho hj hcR
      go_wp2_with fail
      refine HSS.out.mono ?_
      rintro e w4 ⟨b4, c4, rfl, o4, g4, hc4⟩
      have hs4 := g4.size
      have HO4 := hid (o4.mono hszr (Nat.le_refl _))
      have HC4 := hid (HCUR.out.on g4 (by omega))
      have HB4 : Hid (But B w w4) := HBUT.out.on g4 hszr
      have HK4 : Hid (Code B len cap a w4) := HK.out.but HB4.out (Nat.le_refl _) (by omega)
      have hs04 : w.heap.size ≤ w4.heap.size := Nat.le_trans hszr hs4
      clear o4 g4 HSS HOWN HCUR HBUT HCODE
      by_cases hl0 : 0 < V.length
      · have hd2 : decide ((0 : Int) < (V.length : Int)) = true := decide_eq_true (by omega)
        go_wp2_with fail
        refine (one_any _ B _ len cap a _ (by omega) (by omega) (by omega) HC4.out HK4.out).mono ?_
        rintro e w5 ⟨v5, rfl, hC5, hB5⟩
        have HO5 := hid (HO4.out.but hB5 hlt)
        have HC5 := hid hC5
        have HB5 : Hid (But B w w5) := HB4.out.trans hB5
        have HK5 : Hid (Code B len cap a w5) := HK4.out.but hB5 (Nat.le_refl _) (by omega)
        have hs5 := hB5.size
        clear hC5 hB5 HC4 HB4 HK4 HO4
        cases v5
        · go_wp2
          go_ret
          exact ⟨b4, c4, V, rfl, HVL.out, hc4, HO5.out.mono (Nat.le_refl _) (by omega), HC5.out.mono (by omega), HB5.out⟩
        · obtain ⟨R, off, e7, hR, hRl, hc7, hf7, hset⟩ := HO5.out.put hl0
          subst e7
          rw [Nat.add_zero] at hc7 hf7
          have HSET : Hid (∀ x, OwnJ w.heap.size w4.heap.size (some ⟨R, off, none⟩) (V.set 0 x) (w5.setCell ⟨R, off, none⟩ (.int .i64 x))) := by
            intro x
            have := hset x
            rw [Nat.add_zero] at this
            exact this
          have HP : Hid (Calls Try.prog 30 #[.pointer (some ⟨B, 0, none⟩), .int .i64 3] w5.drew fun e w' => ∃ v : Int, e = .returned (.int .i64 v) ∧ 0 ≤ v ∧ v < 3 ∧ Cur B _ (.slice a len cap) w' ∧ But B w5.drew w') :=
            pick_any 3 B _ len cap a w5.drew (by omega) (by omega) (by omega) HC5.out.drew (HK5.out.but ((But.refl B w5).drew) (Nat.le_refl _) (by omega))
          have hBR : B ≠ R := by omega
          clear hset
          go_wp2_with fail
          go_region_with (go_at_call 30; refine HP.out.mono ?_; rintro e w6 ⟨x, rfl, x0, x1, hC6, hB6⟩; have c6 : w6.cell? ⟨R, off, none⟩ = some (.int .i64 V[0]) := (hB6.cell R off hRl (fun e => hBR e.symm)).trans hc7; have f6 : w6.frozen? ⟨R, off, none⟩ = false := (hB6.frozen R off hRl (fun e => hBR e.symm)).trans hf7)
          all_goals
            have hb56 : But B w5 w6 := ((But.refl B w5).drew).trans hB6
            obtain ⟨R2, off2, e2, _, _, _, _, hs2⟩ := (HO5.out.but hb56 hlt).put hl0
            injection e2 with e2
            injection e2 with e2 e3 _
            subst e2; subst e3
            rw [Nat.add_zero] at hs2
            have HS2 := hid hs2
            have HC6 := hid hC6
            have HB6 : Hid (But B w w6) := HB5.out.trans hb56
            have hs6 := hb56.size
            have HG6 : Hid (∀ u, Below w.heap.size w6 (w6.setCell ⟨R, off, none⟩ u)) := fun u => setB (Below.refl _ _) R off hR u
            clear hs2 hC6 hB6 hb56 HP HSET
            go_wp2
            go_ret
            exact ⟨_, c4, V.set 0 _, by rw [List.length_set]; rfl, by rw [List.length_set]; exact HVL.out, by rw [List.length_set]; exact hc4, (HS2.out _).mono (Nat.le_refl _) (by simp; omega), (HC6.out.on (HG6.out _) hlt).mono (by omega), HB6.out.on (HG6.out _) (Nat.le_refl _)⟩
      · have hd2 : decide ((0 : Int) < (V.length : Int)) = false := decide_eq_false (by omega)
        go_wp2
        go_ret
        exact ⟨b4, c4, V, rfl, HVL.out, hc4, HO4.out.mono (Nat.le_refl _) (by omega), HC4.out.mono (by omega), HB4.out⟩
end Go.Proofs.Ytipeillhafcliaa
