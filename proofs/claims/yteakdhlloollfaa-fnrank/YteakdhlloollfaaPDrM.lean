/- What is drawn: masks. -/
import Derived.Test.YteakdhlloollfaaCurR
import Derived.Test.YteakdhlloollfaaPMs
namespace Go.Proofs.Yteakdhlloollfaa
set_option maxRecDepth 100000
open Go Go.ChangeShapes Go.WideShapes Go.ChangeAt Go.RowKit
theorem But.on {B B0 : Nat} {w w2 w9 : World} (h : But B w w2) (g : Below B0 w2 w9) (h0 : w.heap.size ≤ B0) : But B w w9 :=
  ⟨g.os.trans h.os, g.tape.trans h.tape, g.output.trans h.output, Nat.le_trans h.size g.size, fun k hk hB => (g.block k (by omega)).trans (h.block k hk hB)⟩
theorem Cur.on {B B0 N : Nat} {sv : Value} {w2 w9 : World} (h : Cur B N sv w2) (g : Below B0 w2 w9) (h0 : B < B0) : Cur B N sv w9 := by
  have hc : ∀ i, w9.cell? ⟨B, i, none⟩ = w2.cell? ⟨B, i, none⟩ := fun i => g.cell (p := ⟨B, i, none⟩) h0
  have hf : ∀ i, w9.frozen? ⟨B, i, none⟩ = w2.frozen? ⟨B, i, none⟩ := fun i => g.frozen (p := ⟨B, i, none⟩) h0
  obtain ⟨p, p0, p1, hp⟩ := h.place
  obtain ⟨s, s0, s1, hs⟩ := h.seed
  exact ⟨Nat.lt_of_lt_of_le h.lt g.size, (hc 0).trans h.code, ⟨p, p0, p1, (hc 1).trans hp⟩, ⟨s, s0, s1, (hc 2).trans hs⟩, (hf 1).trans h.free1, (hf 2).trans h.free2⟩
theorem AL.but {B lo : Nat} {w w' : World} {v : Value} {l : List Int} (h : AL lo v l w) (g : But B w w') (hB : B < lo) : AL lo v l w' :=
  rw_keep h (fun k hk => g.block k (World.ownsRow.lt h k hk).2 (fun e => by have := (World.ownsRow.lt h k hk).1; omega))
/-- a number is put into a list of one's own -/
theorem AL.put {lo R c : Nat} {l : List Int} {w : World} (h : AL lo (.slice (some ⟨R, 0, none⟩) l.length c) l w) (x : Int) : AL lo (.slice (some ⟨R, 0, none⟩) (l.set 0 x).length c) (l.set 0 x) (w.setCell ⟨R, 0, none⟩ (.int .i64 x)) := by
  have h9 : w.ownsRow lo 3 1 (.slice (some ⟨R, 0, none⟩) l.length c) l.length (ivals l) := h
  unfold AL
  rw [List.length_set]
  obtain ⟨hl, ⟨e, _⟩ | ⟨g, cap, cur, e, h1, hg, h2, h3, h4, h5⟩⟩ := h9
  · cases e
  · injection e with e1 _ e3
    injection e1 with e1
    injection e1 with e1 _ _
    subst e1; subst e3
    have hi : ivals (l.set 0 x) = (ivals l).set 0 (.int .i64 x) := by unfold ivals; rw [List.map_set]
    refine ⟨by simp [ivals], Or.inr ⟨R, c, _, rfl, h1, box_set hg 0 (.int .i64 x), h2, h3, by simp [h4], ?_⟩⟩
    rw [hi, ← h5, Array.toList_setIfInBounds, List.take_set]
set_option maxHeartbeats 2000000 in
theorem masks_any (B N len cap : Nat) (a : Option Addr) (w : World) (hN : N ≤ 900000) (hC : Cur B N (.slice a len cap) w) (hK : Code B len cap a w) :
    Calls Try.prog 24 #[.pointer (some ⟨B, 0, none⟩)] w fun e w' => ∃ (m : Nat) (v : Value) (l : List Int), e = .returned (.tuple #[.int .i64 (m : Int), v]) ∧ 1 ≤ m ∧ m ≤ 7 ∧ l.length ≤ 21 ∧ AL w.heap.size v l w' ∧ Cur B (N + 100) (.slice a len cap) w' ∧ But B w w' := by
  have hlt := hC.lt
  have HC := hid hC
  have HK := hid hK
  clear hC hK
  go_enter Try.func24, Try.ntmps24
  go_wp2_with fail
  refine (pick_any _ B N len cap a _ (by omega) (by omega) (by omega) HC.out HK.out).mono ?_
  rintro e w0 ⟨m0, rfl, m1, m2, hC0, hB0⟩
  obtain ⟨m, hm⟩ : ∃ m : Nat, m0 = (m : Int) - 1 := ⟨(m0 + 1).toNat, by omega⟩
  have HM : Hid (1 ≤ m ∧ m ≤ 7) := by show _ ∧ _; omega
  have hm7 : m ≤ 7 := HM.out.2
  have HP : Hid ((1 : Int) ≤ wrap64 (2 ^ m) ∧ wrap64 ((2 : Int) ^ m) ≤ 100000) := by
    show _ ∧ _
    have h := pow_le m (by omega)
    rw [wrap_pow m (by omega)]
    omega
  have hm1 : (1 : Int) + m0 = (m : Int) := by omega
  have HC0 := hid hC0
  have HB0 := hid hB0
  have HK0 : Hid (Code B len cap a w0) := HK.out.but hB0 (Nat.le_refl _) (by omega)
  have hs0 := hB0.size
  clear hC0 hB0 HC hm m1 m2
  go_wp2_with fail
  refine (pick_any _ B _ len cap a _ (by omega) (by omega) (by omega) HC0.out HK0.out).mono ?_
  rintro e w1 ⟨n, rfl, n0, n1, hC1, hB1⟩
  have HC1 := hid hC1
  have HB1 : Hid (But B w w1) := HB0.out.trans hB1
  have HK1 : Hid (Code B len cap a w1) := HK0.out.but hB1 (Nat.le_refl _) (by omega)
  have hs1 := hB1.size
  clear hC1 hB1 HC0 HB0 HK0
  go_wp2_with fail
  refine (one_any _ B _ len cap a _ (by omega) (by omega) (by omega) HC1.out HK1.out).mono ?_
  rintro e w2 ⟨v2, rfl, hC2, hB2⟩
  have HC2 := hid hC2
  have HB2 : Hid (But B w w2) := HB1.out.trans hB2
  have HK2 : Hid (Code B len cap a w2) := HK1.out.but hB2 (Nat.le_refl _) (by omega)
  have hs2 := hB2.size
  clear hC2 hB2 HC1 HB1 HK1
  cases v2
  · obtain ⟨J0, hJ0⟩ : ∃ J0 : Nat, n = (J0 : Int) := ⟨n.toNat, by omega⟩
    have hj0 : J0 ≤ 21 := by omega
    have HJ := hid hJ0
    subst hJ0
    go_wp2_with fail
    go_loopw [5, 6] (fun o n wr => ∃ (j : Nat) (l : List Int) (o1 : Value), o = o1 ∧ n = .int .i64 (j : Int) ∧ l.length + j ≤ 21 ∧ AL w.heap.size o1 l wr ∧ Cur B (N + 8 + 2 * l.length) (.slice a len cap) wr ∧ But B w wr) (fun _ n _ => (intOf n).toNat)
    case atStart => exact ⟨J0, [], _, rfl, by first | rfl | (rw [HJ.out]), by simpa using hj0, AL.nil _ _, HC2.out.mono (by omega), HB2.out⟩
    case round =>
      clear HC2 HB2 HK2
      obtain ⟨j, l, _, rfl, rfl, hj, hown, hcur, hbut⟩ := hrel
      have HOWN := hid hown
      have HCUR := hid hcur
      have HBUT := hid hbut
      have HCODE : Hid (Code B len cap a wr) := HK.out.but hbut (Nat.le_refl _) (by omega)
      have hszr := hbut.size
      clear hown hcur hbut
      by_cases hj1 : 0 < j
      · have hd : decide ((0 : Int) < (j : Int)) = true := decide_eq_true (by omega)
        go_wp2_with fail
        refine (pick_any _ B _ len cap a _ (HP.out.1) (HP.out.2) (by omega) HCUR.out HCODE.out).mono ?_
        rintro e w3 ⟨x, rfl, x0, x1, hC3, hB3⟩
        have hs3 : w.heap.size ≤ w3.heap.size := Nat.le_trans hszr hB3.size
        have HO3 := hid (HOWN.out.but hB3 hlt)
        have HC3 := hid hC3
        have HB3 : Hid (But B w w3) := HBUT.out.trans hB3
        clear hC3 hB3 HCUR HBUT HCODE HOWN x0 x1
        obtain ⟨v', w', r1, o1, g1, -⟩ := HO3.out.push hs3 x (by omega)
        have HO := hid o1
        have HB' : Hid (But B w w') := HB3.out.on g1 (Nat.le_refl _)
        have HC' : Hid (Cur B (N + 8 + 2 * l.length + 2) (.slice a len cap) w') := HC3.out.on g1 hlt
        clear o1 g1 HO3 HC3 HB3 hd
        go_wp2_with (at_builtin; refine wpList_append_run rfl (.tmp 21) (.tmp 27) 23 rfl _ _ rfl rfl _ _ r1 ?_)
        go_roundw
        case rel => exact ⟨j - 1, l ++ [x], _, rfl, by rw [show ((j - 1 : Nat) : Int) = (j : Int) - 1 from by omega], by rw [List.length_append]; simp; omega, HO.out, HC'.out.mono (by rw [List.length_append]; simp; omega), HB'.out⟩
        case measure => simp [intOf]; omega
      · obtain rfl : j = 0 := by omega
        have hd : decide ((0 : Int) < ((0 : Nat) : Int)) = false := by decide
        by_cases hl0 : 0 < l.length
        · have hd2 : decide ((0 : Int) < (l.length : Int)) = true := decide_eq_true (by omega)
          rcases HOWN.out.form with ⟨_, e⟩ | ⟨R, c, rfl, hc, hR⟩
          · rw [e] at hl0; exact absurd hl0 (Nat.lt_irrefl _)
          go_wp2_with fail
          refine (one_any _ B _ len cap a _ (by omega) (by omega) (by omega) HCUR.out HCODE.out).mono ?_
          rintro e w4 ⟨v4, rfl, hC4, hB4⟩
          have hs4 : w.heap.size ≤ w4.heap.size := Nat.le_trans hszr hB4.size
          have HO4 := hid (HOWN.out.but hB4 hlt)
          have HC4 := hid hC4
          have HB4 : Hid (But B w w4) := HBUT.out.trans hB4
          have HK4 : Hid (Code B len cap a w4) := HCODE.out.but hB4 (Nat.le_refl _) (by omega)
          clear hC4 hB4 HCUR HBUT HCODE HOWN
          cases v4
          · go_wp2
            go_ret2
            exact ⟨m, _, l, rfl, HM.out.1, HM.out.2, by omega, HO4.out, HC4.out.mono (by omega), HB4.out⟩
          · have hB4s := HB4.out.size
            go_wp2_with fail
            generalize wrap64 (2 ^ m) = pw at *
            refine (among_any [-1, pw] 2 w4.heap.size B _ len cap 2 a _ rfl (by simp) (by simp) (by simp) (by omega) (fun i hi => lits_at [-1, pw] w4 i hi) (by omega) (HC4.out.alloc _) (HK4.out.but ((But.refl B w4).alloc _) (Nat.le_refl _) (by omega))).mono ?_
            rintro e w5 ⟨i, _, rfl, hC5, hB5⟩
            have hbx := boxB w4 (.cells #[.int .i64 (-1), .int .i64 pw] 3)
            have o5 := (HO4.out.below hbx).but hB5 hlt
            have HC5 := hid hC5
            have HB5 : Hid (But B w w5) := (HB4.out.alloc _).trans hB5
            obtain ⟨R2, c2, e2, hR2, hrow, _⟩ := own_irow o5 hl0
            injection e2 with e2 _ e3
            subst e3
            injection e2 with e2
            injection e2 with e2 _ _
            subst e2
            have x0 := hrow.cell 0 hl0
            have f0 := hrow.free 0 hl0
            generalize ([-1, pw] : List Int).getD i 0 = z at *
            have h6 := o5.put z
            rw [List.length_set] at h6
            have HO6 := hid h6
            clear h6
            have g6 : Below w.heap.size w5 (w5.setCell ⟨R, 0, none⟩ (.int .i64 z)) := setB (Below.refl _ _) R 0 hR _
            have HC6 : Hid (Cur B (N + 8 + 2 * l.length + 2 + 2) (.slice a len cap) (w5.setCell ⟨R, 0, none⟩ (.int .i64 z))) := HC5.out.on g6 hlt
            have HB6 : Hid (But B w (w5.setCell ⟨R, 0, none⟩ (.int .i64 z))) := HB5.out.on g6 (Nat.le_refl _)
            have HSL : Hid ((l.set 0 z).length = l.length) := by show _ = _; exact List.length_set
            clear hC5 hB5 hbx o5 hrow HO4 HC4 HB4 HK4 g6 HC5 HB5
            go_wp2
            go_ret2
            exact ⟨m, _, l.set 0 z, rfl, HM.out.1, HM.out.2, by rw [HSL.out]; omega, HO6.out, HC6.out.mono (by omega), HB6.out⟩
        · have hd2 : decide ((0 : Int) < (l.length : Int)) = false := decide_eq_false (by omega)
          obtain rfl : l = [] := List.eq_nil_of_length_eq_zero (by omega)
          obtain ⟨aR, cR, rfl, _, _⟩ := HOWN.out.own
          go_wp2
          go_ret2
          exact ⟨m, _, [], rfl, HM.out.1, HM.out.2, by simp, HOWN.out, HCUR.out.mono (by simp), HBUT.out⟩
  · go_wp2_with fail
    refine (pick_any _ B _ len cap a _ (by omega) (by omega) (by omega) HC2.out HK2.out).mono ?_
    rintro e w9 ⟨n9, rfl, n90, n91, hC9, hB9⟩
    obtain ⟨J9, hJ9⟩ : ∃ J9 : Nat, n9 = (J9 : Int) := ⟨n9.toNat, by omega⟩
    subst hJ9
    obtain ⟨J0, hJ0⟩ : ∃ J0 : Nat, J0 = 20 + J9 := ⟨_, rfl⟩
    have hj0 : J0 ≤ 21 := by omega
    have HJ : Hid (20 + (J9 : Int) = (J0 : Int)) := by show _ = _; omega
    have HC2 : Hid (Cur B (N + 2 + 2 + 2 + 2) (.slice a len cap) w9) := hC9
    have HB2 : Hid (But B w w9) := HB2.out.trans hB9
    have HK2 : True := trivial
    clear hC9 hB9 hJ0
    go_wp2_with fail
    go_loopw [5, 6] (fun o n wr => ∃ (j : Nat) (l : List Int) (o1 : Value), o = o1 ∧ n = .int .i64 (j : Int) ∧ l.length + j ≤ 21 ∧ AL w.heap.size o1 l wr ∧ Cur B (N + 8 + 2 * l.length) (.slice a len cap) wr ∧ But B w wr) (fun _ n _ => (intOf n).toNat)
    case atStart => exact ⟨J0, [], _, rfl, by first | rfl | (rw [HJ.out]), by simpa using hj0, AL.nil _ _, HC2.out.mono (by omega), HB2.out⟩
    case round =>
      clear HC2 HB2 HK2
      obtain ⟨j, l, _, rfl, rfl, hj, hown, hcur, hbut⟩ := hrel
      have HOWN := hid hown
      have HCUR := hid hcur
      have HBUT := hid hbut
      have HCODE : Hid (Code B len cap a wr) := HK.out.but hbut (Nat.le_refl _) (by omega)
      have hszr := hbut.size
      clear hown hcur hbut
      by_cases hj1 : 0 < j
      · have hd : decide ((0 : Int) < (j : Int)) = true := decide_eq_true (by omega)
        go_wp2_with fail
        refine (pick_any _ B _ len cap a _ (HP.out.1) (HP.out.2) (by omega) HCUR.out HCODE.out).mono ?_
        rintro e w3 ⟨x, rfl, x0, x1, hC3, hB3⟩
        have hs3 : w.heap.size ≤ w3.heap.size := Nat.le_trans hszr hB3.size
        have HO3 := hid (HOWN.out.but hB3 hlt)
        have HC3 := hid hC3
        have HB3 : Hid (But B w w3) := HBUT.out.trans hB3
        clear hC3 hB3 HCUR HBUT HCODE HOWN x0 x1
        obtain ⟨v', w', r1, o1, g1, -⟩ := HO3.out.push hs3 x (by omega)
        have HO := hid o1
        have HB' : Hid (But B w w') := HB3.out.on g1 (Nat.le_refl _)
        have HC' : Hid (Cur B (N + 8 + 2 * l.length + 2) (.slice a len cap) w') := HC3.out.on g1 hlt
        clear o1 g1 HO3 HC3 HB3 hd
        go_wp2_with (at_builtin; refine wpList_append_run rfl (.tmp 21) (.tmp 27) 23 rfl _ _ rfl rfl _ _ r1 ?_)
        go_roundw
        case rel => exact ⟨j - 1, l ++ [x], _, rfl, by rw [show ((j - 1 : Nat) : Int) = (j : Int) - 1 from by omega], by rw [List.length_append]; simp; omega, HO.out, HC'.out.mono (by rw [List.length_append]; simp; omega), HB'.out⟩
        case measure => simp [intOf]; omega
      · obtain rfl : j = 0 := by omega
        have hd : decide ((0 : Int) < ((0 : Nat) : Int)) = false := by decide
        by_cases hl0 : 0 < l.length
        · have hd2 : decide ((0 : Int) < (l.length : Int)) = true := decide_eq_true (by omega)
          rcases HOWN.out.form with ⟨_, e⟩ | ⟨R, c, rfl, hc, hR⟩
          · rw [e] at hl0; exact absurd hl0 (Nat.lt_irrefl _)
          go_wp2_with fail
          refine (one_any _ B _ len cap a _ (by omega) (by omega) (by omega) HCUR.out HCODE.out).mono ?_
          rintro e w4 ⟨v4, rfl, hC4, hB4⟩
          have hs4 : w.heap.size ≤ w4.heap.size := Nat.le_trans hszr hB4.size
          have HO4 := hid (HOWN.out.but hB4 hlt)
          have HC4 := hid hC4
          have HB4 : Hid (But B w w4) := HBUT.out.trans hB4
          have HK4 : Hid (Code B len cap a w4) := HCODE.out.but hB4 (Nat.le_refl _) (by omega)
          clear hC4 hB4 HCUR HBUT HCODE HOWN
          cases v4
          · go_wp2
            go_ret2
            exact ⟨m, _, l, rfl, HM.out.1, HM.out.2, by omega, HO4.out, HC4.out.mono (by omega), HB4.out⟩
          · have hB4s := HB4.out.size
            go_wp2_with fail
            generalize wrap64 (2 ^ m) = pw at *
            refine (among_any [-1, pw] 2 w4.heap.size B _ len cap 2 a _ rfl (by simp) (by simp) (by simp) (by omega) (fun i hi => lits_at [-1, pw] w4 i hi) (by omega) (HC4.out.alloc _) (HK4.out.but ((But.refl B w4).alloc _) (Nat.le_refl _) (by omega))).mono ?_
            rintro e w5 ⟨i, _, rfl, hC5, hB5⟩
            have hbx := boxB w4 (.cells #[.int .i64 (-1), .int .i64 pw] 3)
            have o5 := (HO4.out.below hbx).but hB5 hlt
            have HC5 := hid hC5
            have HB5 : Hid (But B w w5) := (HB4.out.alloc _).trans hB5
            obtain ⟨R2, c2, e2, hR2, hrow, _⟩ := own_irow o5 hl0
            injection e2 with e2 _ e3
            subst e3
            injection e2 with e2
            injection e2 with e2 _ _
            subst e2
            have x0 := hrow.cell 0 hl0
            have f0 := hrow.free 0 hl0
            generalize ([-1, pw] : List Int).getD i 0 = z at *
            have h6 := o5.put z
            rw [List.length_set] at h6
            have HO6 := hid h6
            clear h6
            have g6 : Below w.heap.size w5 (w5.setCell ⟨R, 0, none⟩ (.int .i64 z)) := setB (Below.refl _ _) R 0 hR _
            have HC6 : Hid (Cur B (N + 8 + 2 * l.length + 2 + 2) (.slice a len cap) (w5.setCell ⟨R, 0, none⟩ (.int .i64 z))) := HC5.out.on g6 hlt
            have HB6 : Hid (But B w (w5.setCell ⟨R, 0, none⟩ (.int .i64 z))) := HB5.out.on g6 (Nat.le_refl _)
            have HSL : Hid ((l.set 0 z).length = l.length) := by show _ = _; exact List.length_set
            clear hC5 hB5 hbx o5 hrow HO4 HC4 HB4 HK4 g6 HC5 HB5
            go_wp2
            go_ret2
            exact ⟨m, _, l.set 0 z, rfl, HM.out.1, HM.out.2, by rw [HSL.out]; omega, HO6.out, HC6.out.mono (by omega), HB6.out⟩
        · have hd2 : decide ((0 : Int) < (l.length : Int)) = false := decide_eq_false (by omega)
          obtain rfl : l = [] := List.eq_nil_of_length_eq_zero (by omega)
          obtain ⟨aR, cR, rfl, _, _⟩ := HOWN.out.own
          go_wp2
          go_ret2
          exact ⟨m, _, [], rfl, HM.out.1, HM.out.2, by simp, HOWN.out, HCUR.out.mono (by simp), HBUT.out⟩
end Go.Proofs.Yteakdhlloollfaa
