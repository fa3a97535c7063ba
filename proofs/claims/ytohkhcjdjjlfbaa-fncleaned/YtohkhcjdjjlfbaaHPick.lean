/- Walk of the model's PickSeg. -/
import Derived.Test.YtohkhcjdjjlfbaaHBet
namespace Go.Proofs.Ytohkhcjdjjlfbaa
set_option maxRecDepth 100000
open Go.ChangeShapes Go.WideShapes Go.ChangeAt Go.RowKit G00541
def cntAt (L : List (List Bool)) (k : Nat) : Nat := (L.getD k []).countP id
def ageAt (S : List Sg) (k : Nat) : Int := (S.getD k ⟨[], 0⟩).age
theorem cntAt_eq (L : List (List Bool)) (k : Nat) (h : k < L.length) : cntAt L k = L[k].countP id := by
  unfold cntAt
  rw [List.getD_eq_getElem?_getD, List.getElem?_eq_getElem h]; rfl
theorem ageAt_eq (S : List Sg) (k : Nat) (h : k < S.length) : ageAt S k = S[k].age := by
  unfold ageAt
  rw [List.getD_eq_getElem?_getD, List.getElem?_eq_getElem h]; rfl
/-- the first of the best full segments among the first n -/
def bestH (S : List Sg) (L : List (List Bool)) (how : Int) : Nat → Option Nat
  | 0 => none
  | n + 1 => match bestH S L how n with
    | none => if lenAt S n = 6 then some n else none
    | some b => if lenAt S n = 6 ∧ betH how (cntAt L n) (cntAt L b) (ageAt S n) (ageAt S b) = true then some n else some b
theorem best_lt (S : List Sg) (L : List (List Bool)) (how : Int) : ∀ n b, bestH S L how n = some b → b < n
  | 0, _, h => by cases h
  | n + 1, b, h => by
    unfold bestH at h
    cases hb : bestH S L how n with
    | none =>
      rw [hb] at h
      simp only at h
      split at h
      · cases h; omega
      · cases h
    | some c =>
      rw [hb] at h
      have := best_lt S L how n c hb
      simp only at h
      split at h
      · cases h; omega
      · cases h; omega
theorem best_step (S : List Sg) (L : List (List Bool)) (how : Int) (n : Nat) : bestH S L how (n + 1) = match bestH S L how n with
    | none => if lenAt S n = 6 then some n else none
    | some b => if lenAt S n = 6 ∧ betH how (cntAt L n) (cntAt L b) (ageAt S n) (ageAt S b) = true then some n else some b := rfl
theorem optI_none : optI none = -1 := rfl
theorem optI_some (b : Nat) : optI (some b) = (b : Int) := rfl
/-- what PickSeg answers -/
def pickOf (o : Option Nat) : Ending := match o with
  | some b => .returned (.tuple #[.int .i64 (b : Int), .bool true])
  | none => .returned (.tuple #[.int .i64 0, .bool false])
set_option maxHeartbeats 2000000 in
theorem sPick_yes (aS aL : Option Addr) (kS kL : Nat) (S : List Sg) (L : List (List Bool)) (how : Int) (w : World) (hl : L.length = S.length) (hg : goodH S L = true) (h1 : 1 ≤ how) (h2 : how ≤ 2) (hG : Gs w.heap.size aS S w) (hV : Vs w.heap.size aL L w) :
    Calls Try.prog 23 #[.agg #[.slice aS S.length kS, .slice aL L.length kL], .int .i64 how] w fun e w' => e = pickOf (bestH S L how S.length) ∧ Below w.heap.size w w' := by
  obtain ⟨hn, hgs, -⟩ := (goodH_iff S L hl).1 hg
  have HB := hid (Bx.start w (.cells #[.slice aS S.length kS, .slice aL L.length kL] 26))
  have y0 := box_cell HB.out.box 0
  have y1 := box_cell HB.out.box 1
  have HC := hid (sgoodH_any aS aL kS kL S L _ ((hG.below HB.out.below).mono HB.out.below.size) ((hV.below HB.out.below).mono HB.out.below.size))
  rw [hg] at HC
  have HIN := hid (fun v => l1In_yes how 1 2 v h1 h2)
  have HG := hid hG
  have HBT : Hid (∀ i j v, i < S.length → j < S.length → Bx w (.cells #[.slice aS S.length kS, .slice aL L.length kL] 26) v → Calls Try.prog 55 #[.agg #[.slice aS S.length kS, .slice aL L.length kL], .int .i64 (i : Nat), .int .i64 (j : Nat), .int .i64 how] v fun e w' => e = .returned (.bool (betH how (cntAt L i) (cntAt L j) (ageAt S i) (ageAt S j))) ∧ Below v.heap.size v w') := fun i j v hi hj hb => by
    have gi := (goodS_iff _ _).1 (hgs i hi)
    have gj := (goodS_iff _ _).1 (hgs j hj)
    rw [cntAt_eq L i (by omega), cntAt_eq L j (by omega), ageAt_eq S i hi, ageAt_eq S j hj]
    exact l5Better_any aS aL kS kL S L i j how v (by omega) hl hi hj (by omega) (by omega) ⟨gi.2.2.1, gi.2.2.2.1⟩ ⟨gj.2.2.1, gj.2.2.2.1⟩ ((hG.below hb.below).mono hb.below.size) ((hV.below hb.below).mono hb.below.size)
  have HLT := hid (best_lt S L how)
  have HSTP := hid (best_step S L how)
  clear hG hV hgs hg hl
  generalize L.length = nl at *
  generalize hW : w.alloc (.cells #[.slice aS S.length kS, .slice aL nl kL] 26) = W at *
  go_enter Try.func23, Try.ntmps23
  go_wp2_with fail
  refine HC.out.mono ?_
  rintro e w2 ⟨rfl, hb2⟩
  have HB2 := hid (HB.out.on hb2)
  clear hb2 hW y0 y1 HC HB
  go_wp2_with fail
  refine (HIN.out _).mono ?_
  rintro e w3 ⟨rfl, hw3⟩
  rw [hw3]
  clear hw3 HIN
  have y0 := box_cell HB2.out.box 0
  go_wp2_with fail
  go_loopw [6, 20] (fun u i wr => ∃ k : Nat, k ≤ S.length ∧ i = .int .i64 k ∧ u = .int .i64 (optI (bestH S L how k)) ∧ Bx w (.cells #[.slice aS S.length kS, .slice aL nl kL] 26) wr) (fun _ i _ => S.length - (intOf i).toNat)
  case atStart => exact ⟨0, Nat.zero_le _, rfl, rfl, HB2.out⟩
  case round =>
    clear HB2 y0
    obtain ⟨k, hk, rfl, rfl, hbx⟩ := hrel
    have HBX := hid hbx
    by_cases hlt : k < S.length
    · obtain ⟨b, off, rfl, hb, hcl⟩ := HG.out (by omega)
      obtain ⟨p, c, c0, c1, -⟩ := hcl k hlt
      rw [← hbx.below.cell (p := ⟨b, off + k * 2, none⟩) hb] at c0
      rw [← hbx.below.cell (p := ⟨b, off + k * 2 + 1, none⟩) hb] at c1
      have hstep := HSTP.out k
      rw [lenAt_eq S k hlt] at hstep
      have hlt2 := HLT.out k
      clear hcl hbx
      generalize S[k] = s at *
      obtain ⟨l, age⟩ := s
      simp only at c0 c1 hstep
      have HB3 := hid (HBX.out.on (boxB wr (.cells #[.slice p l.length c, .int .i64 age] 40)))
      have z0 : (wr.alloc (.cells #[.slice p l.length c, .int .i64 age] 40)).cell? ⟨wr.heap.size, 0, none⟩ = some (.slice p l.length c) := by go_simp
      have y0 := box_cell HB3.out.box 0
      have y1 := box_cell HB3.out.box 1
      by_cases q6 : l.length = 6
      · have hd6 : ((l.length : Int) == 6) = true := beq_iff_eq.2 (by omega)
        generalize bestH S L how k = o at *
        cases o with
        | none =>
          simp only [q6, if_true] at hstep
          have HST := hid hstep
          clear hstep hlt2 HBX q6
          generalize hW : wr.alloc (.cells #[.slice p l.length c, .int .i64 age] 40) = W3 at *
          rw [optI_none]
          go_wp2_with fail
          go_roundw
          case rel => exact ⟨k + 1, by omega, by go_num, by rw [HST.out]; rfl, HB3.out⟩
          case measure => simp [intOf]; omega
        | some t =>
          have ht := hlt2 t rfl
          have HCT := hid (HBT.out k t _ hlt (by omega) HB3.out)
          simp only [q6, true_and] at hstep
          have HST := hid hstep
          clear hstep hlt2 HBX q6
          generalize betH how (cntAt L k) (cntAt L t) (ageAt S k) (ageAt S t) = better at *
          generalize hW : wr.alloc (.cells #[.slice p l.length c, .int .i64 age] 40) = W3 at *
          rw [optI_some]
          have hdt : decide ((t : Int) < 0) = false := decide_eq_false (by omega)
          go_wp2_with fail
          refine HCT.out.mono ?_
          rintro e w4 ⟨rfl, hb4⟩
          have HB4 := hid (HB3.out.on hb4)
          clear hb4 hW z0 y0 y1 HB3 HCT c0 c1
          cases better
          · go_wp2_with fail
            go_roundw
            case rel => exact ⟨k + 1, by omega, by go_num, by rw [HST.out]; rfl, HB4.out⟩
            case measure => simp [intOf]; omega
          · go_wp2_with fail
            go_roundw
            case rel => exact ⟨k + 1, by omega, by go_num, by rw [HST.out]; rfl, HB4.out⟩
            case measure => simp [intOf]; omega
      · have hd6 : ((l.length : Int) == 6) = false := beq_eq_false_iff_ne.2 (by omega)
        have hsame : bestH S L how (k + 1) = bestH S L how k := by
          rw [hstep]
          cases bestH S L how k with
          | none => simp [q6]
          | some t => simp [q6]
        have HST := hid hsame
        clear hstep hsame hlt2 HBX q6
        generalize hW : wr.alloc (.cells #[.slice p l.length c, .int .i64 age] 40) = W3 at *
        generalize bestH S L how k = o at *
        go_wp2_with fail
        go_roundw
        case rel => exact ⟨k + 1, by omega, by go_num, by rw [HST.out], HB3.out⟩
        case measure => simp [intOf]; omega
    · obtain rfl : k = S.length := by omega
      clear hbx
      obtain ⟨o, ho⟩ : ∃ o, bestH S L how S.length = o := ⟨_, rfl⟩
      have HO := hid ho
      rw [ho]
      clear ho
      cases o with
      | none =>
        rw [optI_none]
        go_wp2_with fail
        go_ret2
        exact ⟨by rw [HO.out]; rfl, HBX.out.below⟩
      | some t =>
        rw [optI_some]
        have hdt : decide ((t : Int) < 0) = false := decide_eq_false (by omega)
        go_wp2_with fail
        go_ret2
        exact ⟨by rw [HO.out]; rfl, HBX.out.below⟩
set_option maxHeartbeats 1000000 in
theorem sPick_no (aS aL : Option Addr) (kS kL : Nat) (S : List Sg) (L : List (List Bool)) (how : Int) (w : World) (hno : ¬ (goodH S L = true ∧ 1 ≤ how ∧ how ≤ 2)) (hG : Gs w.heap.size aS S w) (hV : Vs w.heap.size aL L w) :
    Calls Try.prog 23 #[.agg #[.slice aS S.length kS, .slice aL L.length kL], .int .i64 how] w fun e w' => e = .returned (.tuple #[.int .i64 0, .bool false]) ∧ Below w.heap.size w w' := by
  have HB := hid (Bx.start w (.cells #[.slice aS S.length kS, .slice aL L.length kL] 26))
  have y0 := box_cell HB.out.box 0
  have y1 := box_cell HB.out.box 1
  have HC := hid (sgoodH_any aS aL kS kL S L _ ((hG.below HB.out.below).mono HB.out.below.size) ((hV.below HB.out.below).mono HB.out.below.size))
  clear hG hV
  generalize hW : w.alloc (.cells #[.slice aS S.length kS, .slice aL L.length kL] 26) = W at *
  rcases Bool.eq_false_or_eq_true (goodH S L) with hg | hg
  · have hh : how < 1 ∨ 2 < how := by
      rcases Classical.em (1 ≤ how ∧ how ≤ 2) with h | h
      · exact absurd ⟨hg, h⟩ hno
      · omega
    have HIN := hid (fun v => l1In_no how 1 2 v hh)
    rw [hg] at HC
    clear hno hg hh
    go_enter Try.func23, Try.ntmps23
    go_wp2_with fail
    refine HC.out.mono ?_
    rintro e w2 ⟨rfl, hb2⟩
    have HB2 := hid (HB.out.on hb2).below
    clear hb2 hW y0 y1 HC HB
    go_wp2_with fail
    refine (HIN.out _).mono ?_
    rintro e w3 ⟨rfl, hw3⟩
    rw [hw3]
    clear hw3 HIN
    go_wp2_with fail
    go_ret2
    exact ⟨rfl, HB2.out⟩
  · rw [hg] at HC
    clear hno hg
    go_enter Try.func23, Try.ntmps23
    go_wp2_with fail
    refine HC.out.mono ?_
    rintro e w2 ⟨rfl, hb2⟩
    have HB2 := hid (HB.out.on hb2).below
    clear hb2 hW y0 y1 HC HB
    go_wp2_with fail
    go_ret2
    exact ⟨rfl, HB2.out⟩
end Go.Proofs.Ytohkhcjdjjlfbaa
