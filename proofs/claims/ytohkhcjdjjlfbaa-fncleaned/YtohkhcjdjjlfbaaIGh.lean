/- Walk of the program's GoodHeap. -/
import Derived.Test.YtohkhcjdjjlfbaaIEach
import Derived.Deep.RegionWith
namespace Go.Proofs.Ytohkhcjdjjlfbaa
set_option maxRecDepth 100000
open Go.ChangeShapes Go.WideShapes Go.ChangeAt Go.RowKit G00541
set_option maxHeartbeats 4000000 in
theorem igoodH_any (aS aL : Option Addr) (kS kL : Nat) (S : List Sg) (L : List (List Bool)) (w : World) (hG : Gs w.heap.size aS S w) (hV : Vs w.heap.size aL L w) :
    Calls Try.prog 11 #[.agg #[.slice aS S.length kS, .slice aL L.length kL]] w fun e w' => e = .returned (.bool (goodH S L)) ∧ Below w.heap.size w w' := by
  have HB : Hid (Below w.heap.size w (w.alloc (.cells #[.slice aS S.length kS, .slice aL L.length kL] 26))) := boxB w _
  have y0 : (w.alloc (.cells #[.slice aS S.length kS, .slice aL L.length kL] 26)).cell? ⟨w.heap.size, 0, none⟩ = some (.slice aS S.length kS) := by go_simp
  have y1 : (w.alloc (.cells #[.slice aS S.length kS, .slice aL L.length kL] 26)).cell? ⟨w.heap.size, 1, none⟩ = some (.slice aL L.length kL) := by go_simp
  have hsz : (w.alloc (.cells #[.slice aS S.length kS, .slice aL L.length kL] 26)).heap.size = w.heap.size + 1 := heap_size _ _
  have HG := hid (hG.below HB.out)
  have HV := hid (hV.below HB.out)
  clear hG hV
  generalize hW : w.alloc (.cells #[.slice aS S.length kS, .slice aL L.length kL] 26) = W at *
  by_cases n1 : 2 ≤ S.length
  case neg =>
    have HF : Hid (goodH S L = false) := goodH_many S L (by omega)
    have hd : decide ((S.length : Int) < 2) = true := decide_eq_true (by omega)
    go_enter Try.func11, Try.ntmps11
    go_wp2_with fail
    go_ret
    exact ⟨ret_bd HF.out.symm, HB.out⟩
  have hd1 : decide ((S.length : Int) < 2) = false := decide_eq_false (by omega)
  by_cases n2 : S.length ≤ 8
  case neg =>
    have HF : Hid (goodH S L = false) := goodH_many S L (by omega)
    have hd : decide (8 < (S.length : Int)) = true := decide_eq_true (by omega)
    go_enter Try.func11, Try.ntmps11
    go_wp2_with fail
    go_ret
    exact ⟨ret_bd HF.out.symm, HB.out⟩
  have hd2 : decide (8 < (S.length : Int)) = false := decide_eq_false (by omega)
  by_cases hl : L.length = S.length
  case neg =>
    have HF : Hid (goodH S L = false) := goodH_len S L hl
    have hd4 : ((L.length : Int) == (S.length : Int)) = false := beq_eq_false_iff_ne.2 (by omega)
    have hd3 : ((L.length : Int) != (S.length : Int)) = true := bne_iff_ne.2 (by omega)
    go_enter Try.func11, Try.ntmps11
    go_wp2_with fail
    go_ret
    exact ⟨ret_bd HF.out.symm, HB.out⟩
  have hd3 : ((S.length : Int) != (S.length : Int)) = false := by simp
  rw [hl] at y1 ⊢
  rw [hl] at hW
  have HEACH : Hid (∀ u, Below w.heap.size W u → (∀ k (h : k < S.length), goodS S[k] (L[k]'(by omega)) = true) → Calls Try.prog 42 #[.agg #[.slice aS S.length kS, .slice aL S.length kL]] u fun e w' => e = .returned (.bool (goodH S L)) ∧ Below u.heap.size u w') := fun u hu hg => by
    have := eachLiveOnce_any aS aL kS kL S L u ⟨n1, n2⟩ hl hg ((HG.out.below hu).mono (by have := hu.size; omega)) ((HV.out.below hu).mono (by have := hu.size; omega))
    rw [hl] at this; exact this
  go_enter Try.func11, Try.ntmps11
  go_wp2_with fail
  go_loopw [27] (fun i wr => ∃ k : Nat, k ≤ S.length ∧ i = .int .i64 k ∧ (∀ j (h : j < S.length), j < k → goodS S[j] (L[j]'(by omega)) = true) ∧ Below W.heap.size W wr) (fun i _ => S.length - (intOf i).toNat)
  case atStart => exact ⟨0, Nat.zero_le _, rfl, (fun _ _ h => absurd h (Nat.not_lt_zero _)), Below.refl _ _⟩
  case round =>
    obtain ⟨k, hk, rfl, hall, hbel⟩ := hrel
    have HALL := hid hall
    have HBEL := hid hbel
    clear hall
    by_cases hlt : k < S.length
    · obtain ⟨b, off, rfl, hb, hcl⟩ := HG.out (by omega)
      obtain ⟨p, c, c0, c1, hI⟩ := hcl k hlt
      rw [← hbel.cell (p := ⟨b, off + k * 2, none⟩) (show b < W.heap.size by omega)] at c0
      rw [← hbel.cell (p := ⟨b, off + k * 2 + 1, none⟩) (show b < W.heap.size by omega)] at c1
      obtain ⟨b', off', rfl, hb', hcv⟩ := HV.out (by omega)
      obtain ⟨p', c', c2, hJ⟩ := hcv k (by omega)
      clear hcl hcv
      rw [← hbel.cell (p := ⟨w.heap.size, 1, none⟩) (show w.heap.size < W.heap.size by omega)] at y1
      rw [← hbel.cell (p := ⟨b', off' + k, none⟩) (show b' < W.heap.size by omega)] at c2
      have hs2 := hbel.size
      have HBAD : Hid (goodS S[k] (L[k]'(by omega)) = false → goodH S L = false) := goodH_seg S L hl k hlt
      have HNX : Hid (goodS S[k] (L[k]'(by omega)) = true → ∀ j (h : j < S.length), j < k + 1 → goodS S[j] (L[j]'(by omega)) = true) := fun h j hj hjk => by
        by_cases e : j = k
        · subst e; exact h
        · exact HALL.out j hj (by omega)
      clear HALL hJ HEACH HG HV
      generalize L[k]'(by omega) = v at *
      generalize S[k] = s at *
      obtain ⟨l, age⟩ := s
      simp only at c0 c1
      have HI : Hid (Is wr.heap.size p l wr) := ((hI.below (hbel.mono (by omega))).mono (by omega))
      clear hI hbel hW
      go_wp2_with fail
      have HBW : Hid (Below wr.heap.size wr (wr.alloc (.cells #[.slice p l.length c, .int .i64 age] 40))) := boxB _ _
      rw [← HBW.out.cell (p := ⟨w.heap.size, 1, none⟩) (show w.heap.size < wr.heap.size by omega)] at y1
      rw [← HBW.out.cell (p := ⟨b', off' + k, none⟩) (show b' < wr.heap.size by omega)] at c2
      have z0 : (wr.alloc (.cells #[.slice p l.length c, .int .i64 age] 40)).cell? ⟨wr.heap.size, 0, none⟩ = some (.slice p l.length c) := by go_simp
      have z1 : (wr.alloc (.cells #[.slice p l.length c, .int .i64 age] 40)).cell? ⟨wr.heap.size, 1, none⟩ = some (.int .i64 age) := by go_simp
      have HI2 := hid ((HI.out.below HBW.out).mono HBW.out.size)
      have HB2 := hid (HBEL.out.trans (HBW.out.mono HBEL.out.size))
      clear c0 c1 HI HBEL
      generalize hW2 : wr.alloc (.cells #[.slice p l.length c, .int .i64 age] 40) = W2 at *
      clear hW2 HBW
      have HC := hid (goodSeg_any p p' c c' l age v W2.drew (HI2.out.below (Below.refl _ _).drew))
      generalize goodS ⟨l, age⟩ v = t at *
      cases t
      · have HF := hid (HBAD.out rfl)
        clear HBAD HNX HI2
        go_region_with (go_at_call 41; refine HC.out.mono ?_; rintro e w9 ⟨rfl, b9⟩)
        all_goals
          have HB9 : Hid (Below w.heap.size w w9) := HB.out.trans ((HB2.out.trans ((show Below W2.heap.size W2 w9 from ⟨b9.os, b9.tape, b9.output, b9.size, b9.block⟩).mono HB2.out.size)).mono (by omega))
          clear b9 HC y1 z0 z1 c2
          go_wp2_with fail
          go_ret
          exact ⟨ret_bd HF.out.symm, HB9.out⟩
      · have HN := hid (HNX.out rfl)
        clear HBAD HNX HI2
        go_region_with (go_at_call 41; refine HC.out.mono ?_; rintro e w9 ⟨rfl, b9⟩)
        all_goals
          have HB9 : Hid (Below W.heap.size W w9) := HB2.out.trans ((show Below W2.heap.size W2 w9 from ⟨b9.os, b9.tape, b9.output, b9.size, b9.block⟩).mono HB2.out.size)
          clear b9 HC y1 z0 z1 c2
          go_wp2_with fail
          go_roundw
          · exact ⟨k + 1, by omega, by go_num, HN.out, HB9.out⟩
          · simp [intOf]; omega
    · have HC := hid (HEACH.out wr (hbel.mono (by omega)) (fun j h => HALL.out j h (by omega)))
      rw [← hbel.cell (p := ⟨w.heap.size, 0, none⟩) (show w.heap.size < W.heap.size by omega)] at y0
      rw [← hbel.cell (p := ⟨w.heap.size, 1, none⟩) (show w.heap.size < W.heap.size by omega)] at y1
      clear HEACH HALL HG HV hbel hW
      go_wp2_with fail
      refine HC.out.mono ?_
      rintro e w9 ⟨rfl, b9⟩
      have HB9 : Hid (Below w.heap.size w w9) := HB.out.trans ((HBEL.out.trans (b9.mono HBEL.out.size)).mono (by omega))
      clear b9
      go_wp2_with fail
      go_ret
      exact ⟨rfl, HB9.out⟩
end Go.Proofs.Ytohkhcjdjjlfbaa
