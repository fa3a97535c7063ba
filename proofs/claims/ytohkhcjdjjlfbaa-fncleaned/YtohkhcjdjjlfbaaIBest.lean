/- Walk of the program's bestFull. -/
import Derived.Test.YtohkhcjdjjlfbaaIPk1
import Derived.Test.YtohkhcjdjjlfbaaIPk2
namespace Go.Proofs.Ytohkhcjdjjlfbaa
set_option maxRecDepth 100000
open Go.ChangeShapes Go.WideShapes Go.ChangeAt Go.RowKit G00541
def optN (o : Option Nat) : Int := match o with
  | some b => (b : Int)
  | none => 0
set_option maxHeartbeats 4000000 in
theorem bestFull1_any (aS aL : Option Addr) (kS kL X : Nat) (S : List Sg) (L : List (List Bool)) (w : World) (hm : S.length ≤ 8) (hG : Gs w.heap.size aS S w)
    (HT : ∀ i j v, i < S.length → j < S.length → Below w.heap.size w v → Calls Try.prog 52 #[.int .i64 (i : Nat), .int .i64 (j : Nat), .pointer (some ⟨X, 0, none⟩)] v fun e w' => e = .returned (.bool (betH 1 (cntAt L i) (cntAt L j) (ageAt S i) (ageAt S j))) ∧ Below v.heap.size v w') :
    Calls Try.prog 51 #[.agg #[.slice aS S.length kS, .slice aL L.length kL], .func (.func 52) #[] #[.pointer (some ⟨X, 0, none⟩)]] w fun e w' => e = pickOf (bestH S L 1 S.length) ∧ Below w.heap.size w w' := by
  have HB := hid (Bx.start w (.cells #[.slice aS S.length kS, .slice aL L.length kL] 26))
  have y0 := box_cell HB.out.box 0
  have HG := hid hG
  have HBT : Hid (∀ i j v, i < S.length → j < S.length → Below w.heap.size w v → Calls Try.prog 52 #[.int .i64 (i : Nat), .int .i64 (j : Nat), .pointer (some ⟨X, 0, none⟩)] v fun e w' => e = .returned (.bool (betH 1 (cntAt L i) (cntAt L j) (ageAt S i) (ageAt S j))) ∧ Below v.heap.size v w') := HT
  have HLT := hid (best_lt S L 1)
  have HSTP := hid (best_step S L 1)
  clear hG HT
  generalize L.length = nl at *
  generalize hW : w.alloc (.cells #[.slice aS S.length kS, .slice aL nl kL] 26) = W at *
  go_enter Try.func51, Try.ntmps51
  go_wp2_with fail
  go_loopw [6, 7, 13] (fun u f i wr => ∃ k : Nat, k ≤ S.length ∧ i = .int .i64 k ∧ u = .int .i64 (optN (bestH S L 1 k)) ∧ f = .bool (bestH S L 1 k).isSome ∧ Below w.heap.size w wr) (fun _ _ i _ => S.length - (intOf i).toNat)
  case atStart => exact ⟨0, Nat.zero_le _, rfl, rfl, rfl, HB.out.below⟩
  case round =>
    clear HB y0 hW
    obtain ⟨k, hk, rfl, rfl, rfl, hbel⟩ := hrel
    have HBEL := hid hbel
    by_cases hlt : k < S.length
    · obtain ⟨b, off, rfl, hb, hcl⟩ := HG.out (by omega)
      obtain ⟨p, c, c0, c1, -⟩ := hcl k hlt
      rw [← hbel.cell (p := ⟨b, off + k * 2, none⟩) hb] at c0
      rw [← hbel.cell (p := ⟨b, off + k * 2 + 1, none⟩) hb] at c1
      have hstep := HSTP.out k
      rw [lenAt_eq S k hlt] at hstep
      have hlt2 := HLT.out k
      clear hcl hbel
      generalize S[k] = s at *
      obtain ⟨l, age⟩ := s
      simp only at c0 c1 hstep
      have HB3 := hid (HBEL.out.trans ((boxB wr (.cells #[.slice p l.length c, .int .i64 age] 40)).mono HBEL.out.size))
      have z0 : (wr.alloc (.cells #[.slice p l.length c, .int .i64 age] 40)).cell? ⟨wr.heap.size, 0, none⟩ = some (.slice p l.length c) := by go_simp
      by_cases q6 : l.length = 6
      · have hd6 : ((l.length : Int) == 6) = true := beq_iff_eq.2 (by omega)
        generalize bestH S L 1 k = o at *
        cases o with
        | none =>
          simp only [q6, if_true] at hstep
          have HST := hid hstep
          clear hstep hlt2 HBEL q6
          generalize hW : wr.alloc (.cells #[.slice p l.length c, .int .i64 age] 40) = W3 at *
          simp only [optN, Option.isSome]
          go_wp2_with fail
          go_roundw
          case rel => exact ⟨k + 1, by omega, by go_num, by rw [HST.out] <;> rfl, by rw [HST.out] <;> rfl, HB3.out⟩
          case measure => simp [intOf]; omega
        | some t =>
          have ht := hlt2 t rfl
          have HCT := hid (HBT.out k t _ hlt (by omega) HB3.out)
          simp only [q6, true_and] at hstep
          have HST := hid hstep
          clear hstep hlt2 HBEL q6
          generalize betH 1 (cntAt L k) (cntAt L t) (ageAt S k) (ageAt S t) = better at *
          generalize hW : wr.alloc (.cells #[.slice p l.length c, .int .i64 age] 40) = W3 at *
          simp only [optN, Option.isSome]
          go_wp2_with fail
          refine HCT.out.mono ?_
          rintro e w4 ⟨rfl, hb4⟩
          have HB4 := hid (HB3.out.trans (hb4.mono HB3.out.size))
          clear hb4 hW z0 HB3 HCT c0 c1
          cases better
          · go_wp2_with fail
            go_roundw
            case rel => exact ⟨k + 1, by omega, by go_num, by rw [HST.out] <;> rfl, by rw [HST.out] <;> rfl, HB4.out⟩
            case measure => simp [intOf]; omega
          · go_wp2_with fail
            go_roundw
            case rel => exact ⟨k + 1, by omega, by go_num, by rw [HST.out] <;> rfl, by rw [HST.out] <;> rfl, HB4.out⟩
            case measure => simp [intOf]; omega
      · have hd6 : ((l.length : Int) == 6) = false := beq_eq_false_iff_ne.2 (by omega)
        have hsame : bestH S L 1 (k + 1) = bestH S L 1 k := by
          rw [hstep]
          cases bestH S L 1 k with
          | none => simp [q6]
          | some t => simp [q6]
        have HST := hid hsame
        clear hstep hsame hlt2 HBEL q6
        generalize hW : wr.alloc (.cells #[.slice p l.length c, .int .i64 age] 40) = W3 at *
        generalize bestH S L 1 k = o at *
        go_wp2_with fail
        go_roundw
        case rel => exact ⟨k + 1, by omega, by go_num, by rw [HST.out], by rw [HST.out], HB3.out⟩
        case measure => simp [intOf]; omega
    · obtain rfl : k = S.length := by omega
      clear hbel
      obtain ⟨o, ho⟩ : ∃ o, bestH S L 1 S.length = o := ⟨_, rfl⟩
      have HO := hid ho
      rw [ho]
      clear ho
      go_wp2_with fail
      go_ret2
      exact ⟨by rw [HO.out]; cases o <;> rfl, HBEL.out⟩
set_option maxHeartbeats 4000000 in
theorem bestFull2_any (aS aL : Option Addr) (kS kL X : Nat) (S : List Sg) (L : List (List Bool)) (w : World) (hm : S.length ≤ 8) (hG : Gs w.heap.size aS S w)
    (HT : ∀ i j v, i < S.length → j < S.length → Below w.heap.size w v → Calls Try.prog 53 #[.int .i64 (i : Nat), .int .i64 (j : Nat), .pointer (some ⟨X, 0, none⟩)] v fun e w' => e = .returned (.bool (betH 2 (cntAt L i) (cntAt L j) (ageAt S i) (ageAt S j))) ∧ Below v.heap.size v w') :
    Calls Try.prog 51 #[.agg #[.slice aS S.length kS, .slice aL L.length kL], .func (.func 53) #[] #[.pointer (some ⟨X, 0, none⟩)]] w fun e w' => e = pickOf (bestH S L 2 S.length) ∧ Below w.heap.size w w' := by
  have HB := hid (Bx.start w (.cells #[.slice aS S.length kS, .slice aL L.length kL] 26))
  have y0 := box_cell HB.out.box 0
  have HG := hid hG
  have HBT : Hid (∀ i j v, i < S.length → j < S.length → Below w.heap.size w v → Calls Try.prog 53 #[.int .i64 (i : Nat), .int .i64 (j : Nat), .pointer (some ⟨X, 0, none⟩)] v fun e w' => e = .returned (.bool (betH 2 (cntAt L i) (cntAt L j) (ageAt S i) (ageAt S j))) ∧ Below v.heap.size v w') := HT
  have HLT := hid (best_lt S L 2)
  have HSTP := hid (best_step S L 2)
  clear hG HT
  generalize L.length = nl at *
  generalize hW : w.alloc (.cells #[.slice aS S.length kS, .slice aL nl kL] 26) = W at *
  go_enter Try.func51, Try.ntmps51
  go_wp2_with fail
  go_loopw [6, 7, 13] (fun u f i wr => ∃ k : Nat, k ≤ S.length ∧ i = .int .i64 k ∧ u = .int .i64 (optN (bestH S L 2 k)) ∧ f = .bool (bestH S L 2 k).isSome ∧ Below w.heap.size w wr) (fun _ _ i _ => S.length - (intOf i).toNat)
  case atStart => exact ⟨0, Nat.zero_le _, rfl, rfl, rfl, HB.out.below⟩
  case round =>
    clear HB y0 hW
    obtain ⟨k, hk, rfl, rfl, rfl, hbel⟩ := hrel
    have HBEL := hid hbel
    by_cases hlt : k < S.length
    · obtain ⟨b, off, rfl, hb, hcl⟩ := HG.out (by omega)
      obtain ⟨p, c, c0, c1, -⟩ := hcl k hlt
      rw [← hbel.cell (p := ⟨b, off + k * 2, none⟩) hb] at c0
      rw [← hbel.cell (p := ⟨b, off + k * 2 + 1, none⟩) hb] at c1
      have hstep := HSTP.out k
      rw [lenAt_eq S k hlt] at hstep
      have hlt2 := HLT.out k
      clear hcl hbel
      generalize S[k] = s at *
      obtain ⟨l, age⟩ := s
      simp only at c0 c1 hstep
      have HB3 := hid (HBEL.out.trans ((boxB wr (.cells #[.slice p l.length c, .int .i64 age] 40)).mono HBEL.out.size))
      have z0 : (wr.alloc (.cells #[.slice p l.length c, .int .i64 age] 40)).cell? ⟨wr.heap.size, 0, none⟩ = some (.slice p l.length c) := by go_simp
      by_cases q6 : l.length = 6
      · have hd6 : ((l.length : Int) == 6) = true := beq_iff_eq.2 (by omega)
        generalize bestH S L 2 k = o at *
        cases o with
        | none =>
          simp only [q6, if_true] at hstep
          have HST := hid hstep
          clear hstep hlt2 HBEL q6
          generalize hW : wr.alloc (.cells #[.slice p l.length c, .int .i64 age] 40) = W3 at *
          simp only [optN, Option.isSome]
          go_wp2_with fail
          go_roundw
          case rel => exact ⟨k + 1, by omega, by go_num, by rw [HST.out] <;> rfl, by rw [HST.out] <;> rfl, HB3.out⟩
          case measure => simp [intOf]; omega
        | some t =>
          have ht := hlt2 t rfl
          have HCT := hid (HBT.out k t _ hlt (by omega) HB3.out)
          simp only [q6, true_and] at hstep
          have HST := hid hstep
          clear hstep hlt2 HBEL q6
          generalize betH 2 (cntAt L k) (cntAt L t) (ageAt S k) (ageAt S t) = better at *
          generalize hW : wr.alloc (.cells #[.slice p l.length c, .int .i64 age] 40) = W3 at *
          simp only [optN, Option.isSome]
          go_wp2_with fail
          refine HCT.out.mono ?_
          rintro e w4 ⟨rfl, hb4⟩
          have HB4 := hid (HB3.out.trans (hb4.mono HB3.out.size))
          clear hb4 hW z0 HB3 HCT c0 c1
          cases better
          · go_wp2_with fail
            go_roundw
            case rel => exact ⟨k + 1, by omega, by go_num, by rw [HST.out] <;> rfl, by rw [HST.out] <;> rfl, HB4.out⟩
            case measure => simp [intOf]; omega
          · go_wp2_with fail
            go_roundw
            case rel => exact ⟨k + 1, by omega, by go_num, by rw [HST.out] <;> rfl, by rw [HST.out] <;> rfl, HB4.out⟩
            case measure => simp [intOf]; omega
      · have hd6 : ((l.length : Int) == 6) = false := beq_eq_false_iff_ne.2 (by omega)
        have hsame : bestH S L 2 (k + 1) = bestH S L 2 k := by
          rw [hstep]
          cases bestH S L 2 k with
          | none => simp [q6]
          | some t => simp [q6]
        have HST := hid hsame
        clear hstep hsame hlt2 HBEL q6
        generalize hW : wr.alloc (.cells #[.slice p l.length c, .int .i64 age] 40) = W3 at *
        generalize bestH S L 2 k = o at *
        go_wp2_with fail
        go_roundw
        case rel => exact ⟨k + 1, by omega, by go_num, by rw [HST.out], by rw [HST.out], HB3.out⟩
        case measure => simp [intOf]; omega
    · obtain rfl : k = S.length := by omega
      clear hbel
      obtain ⟨o, ho⟩ : ∃ o, bestH S L 2 S.length = o := ⟨_, rfl⟩
      have HO := hid ho
      rw [ho]
      clear ho
      go_wp2_with fail
      go_ret2
      exact ⟨by rw [HO.out]; cases o <;> rfl, HBEL.out⟩
end Go.Proofs.Ytohkhcjdjjlfbaa
