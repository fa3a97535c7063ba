/- Walks of the laws' own measures of heaps. -/
import Derived.Test.YtbomcppkgpfjjaaHRoom
namespace Go.Proofs.Ytbomcppkgpfjjaa
set_option maxRecDepth 100000
open Go.ChangeShapes Go.WideShapes Go.ChangeAt Go.RowKit G00541
set_option maxHeartbeats 400000 in
theorem szIntS_any (a : Option Addr) (cap n : Nat) (left : Int) (w : World) (h0 : 0 ≤ left) (h1 : left ≤ 1048576) (hn : n ≤ 9223372036854775807) :
    Calls Try.prog 39 #[.slice a n cap, .int .i64 left] w fun e w' => (∃ r : Int, e = .returned (.int .i64 r) ∧ r ≤ 1048576 ∧ -1 ≤ r ∧ (0 ≤ r → n ≤ 1048576)) ∧ w' = w := by
  by_cases g : (n : Int) ≤ left
  · have hd : decide (left - (n : Int) < 0) = false := by simp; omega
    go_enter Try.func39, Try.ntmps39
    go_wp2
    go_ret
    exact ⟨⟨_, rfl, by omega, by omega, fun _ => by omega⟩, rfl⟩
  · have hd : decide (left - (n : Int) < 0) = true := by simp; omega
    go_enter Try.func39, Try.ntmps39
    go_wp2
    go_ret
    exact ⟨⟨-1, rfl, by omega, by omega, fun h => by omega⟩, rfl⟩
set_option maxHeartbeats 400000 in
theorem szBoolS_any (a : Option Addr) (cap n : Nat) (left : Int) (w : World) (h0 : 0 ≤ left) (h1 : left ≤ 1048576) (hn : n ≤ 9223372036854775807) :
    Calls Try.prog 27 #[.slice a n cap, .int .i64 left] w fun e w' => (∃ r : Int, e = .returned (.int .i64 r) ∧ r ≤ 1048576 ∧ -1 ≤ r ∧ (0 ≤ r → n ≤ 1048576)) ∧ w' = w := by
  by_cases g : (n : Int) ≤ left
  · have hd : decide (left - (n : Int) < 0) = false := by simp; omega
    go_enter Try.func27, Try.ntmps27
    go_wp2
    go_ret
    exact ⟨⟨_, rfl, by omega, by omega, fun _ => by omega⟩, rfl⟩
  · have hd : decide (left - (n : Int) < 0) = true := by simp; omega
    go_enter Try.func27, Try.ntmps27
    go_wp2
    go_ret
    exact ⟨⟨-1, rfl, by omega, by omega, fun h => by omega⟩, rfl⟩
set_option maxHeartbeats 400000 in
theorem szSeg_any (a : Option Addr) (cap n : Nat) (age left : Int) (w : World) (h0 : 0 ≤ left) (h1 : left ≤ 1048576) (hn : n ≤ 9223372036854775807) :
    Calls Try.prog 26 #[.agg #[.slice a n cap, .int .i64 age], .int .i64 left] w fun e w' => (∃ r : Int, e = .returned (.int .i64 r) ∧ r ≤ 1048576 ∧ -1 ≤ r ∧ (0 ≤ r → n ≤ 1048576)) ∧ Below w.heap.size w w' := by
  have HB := hid (boxB w (.cells #[.slice a n cap, .int .i64 age] 54))
  have HC := hid (fun v => szIntS_any a cap n left v h0 h1 hn)
  go_enter Try.func26, Try.ntmps26
  go_wp2_with fail
  refine (HC.out _).mono ?_
  rintro e w2 ⟨⟨r, rfl, r1, r2, r3⟩, hw2⟩
  rw [hw2]
  clear hw2 HC
  have HR := hid r3
  clear r3
  by_cases g : r < 0
  · have hd : decide (r < 0) = true := decide_eq_true g
    go_wp2_with fail
    go_ret
    exact ⟨⟨-1, rfl, by omega, by omega, fun h => by omega⟩, HB.out⟩
  · have hd : decide (r < 0) = false := decide_eq_false g
    go_wp2_with fail
    go_ret
    exact ⟨⟨r, rfl, r1, r2, HR.out⟩, HB.out⟩
set_option maxHeartbeats 1000000 in
theorem szSegS_any (a : Option Addr) (cap : Nat) (S : List Sg) (left : Int) (w : World) (h0 : 0 ≤ left) (h1 : left ≤ 1048576) (hn : S.length ≤ 9223372036854775807) (hf : ∀ s ∈ S, s.bl.length ≤ 9223372036854775807) (hG : Gs w.heap.size a S w) :
    Calls Try.prog 13 #[.slice a S.length cap, .int .i64 left] w fun e w' => (∃ r : Int, e = .returned (.int .i64 r) ∧ r ≤ 1048576 ∧ -1 ≤ r ∧ (0 ≤ r → S.length ≤ 1048576 ∧ ∀ k (h : k < S.length), S[k].bl.length ≤ 1048576)) ∧ Below w.heap.size w w' := by
  have HG := hid hG
  have HF := hid hf
  clear hG hf
  by_cases g : (S.length : Int) ≤ left
  case neg =>
    have hd : decide (left - (S.length : Int) < 0) = true := by simp; omega
    go_enter Try.func13, Try.ntmps13
    go_wp2_with fail
    go_ret
    exact ⟨⟨-1, rfl, by omega, by omega, fun h => by omega⟩, Below.refl _ _⟩
  have hd : decide (left - (S.length : Int) < 0) = false := by simp; omega
  go_enter Try.func13, Try.ntmps13
  go_wp2_with fail
  go_loopw [1, 5] (fun u i wr => ∃ (k : Nat) (r : Int), k ≤ S.length ∧ i = .int .i64 k ∧ u = .int .i64 r ∧ 0 ≤ r ∧ r ≤ 1048576 ∧ (∀ j (h : j < S.length), j < k → S[j].bl.length ≤ 1048576) ∧ Below w.heap.size w wr) (fun _ i _ => S.length - (intOf i).toNat)
  case atStart => exact ⟨0, left - S.length, Nat.zero_le _, rfl, rfl, by omega, by omega, (fun _ _ h => absurd h (Nat.not_lt_zero _)), Below.refl _ _⟩
  case round =>
    obtain ⟨k, r, hk, rfl, rfl, r0, r1, hall, hbel⟩ := hrel
    have HBEL := hid hbel
    have HALL := hid hall
    clear hall
    by_cases hlt : k < S.length
    · obtain ⟨b, off, rfl, hb, hcl⟩ := HG.out (by omega)
      obtain ⟨p, c, c0, c1, -⟩ := hcl k hlt
      rw [← hbel.cell (p := ⟨b, off + k * 2, none⟩) hb] at c0
      rw [← hbel.cell (p := ⟨b, off + k * 2 + 1, none⟩) hb] at c1
      have hf := HF.out S[k] (List.getElem_mem hlt)
      have HNX : Hid (S[k].bl.length ≤ 1048576 → ∀ j (h : j < S.length), j < k + 1 → S[j].bl.length ≤ 1048576) := fun h j hj hjk => by
        by_cases e : j = k
        · subst e; exact h
        · exact HALL.out j hj (by omega)
      clear hcl hbel
      generalize S[k] = s at *
      obtain ⟨l, age⟩ := s
      simp only at c0 c1 hf HNX
      have HC := hid (fun v => szSeg_any p c l.length age r v r0 r1 hf)
      go_wp2_with fail
      refine (HC.out _).mono ?_
      rintro e w2 ⟨⟨q, rfl, q1, q2, q3⟩, hb2⟩
      have HB2 := hid (HBEL.out.trans (hb2.mono HBEL.out.size))
      have HQ := hid q3
      clear HC hb2 c0 c1 q3 HALL
      by_cases g : q < 0
      · have hdq : decide (q < 0) = true := decide_eq_true g
        go_wp2_with fail
        go_ret
        exact ⟨⟨-1, rfl, by omega, by omega, fun h => by omega⟩, HB2.out⟩
      · have hdq : decide (q < 0) = false := decide_eq_false g
        go_wp2_with fail
        go_roundw
        case rel => exact ⟨k + 1, q, by omega, by go_num, rfl, by omega, q1, HNX.out (HQ.out (by omega)), HB2.out⟩
        case measure => simp [intOf]; omega
    · clear hbel
      go_wp2_with fail
      go_ret
      exact ⟨⟨r, rfl, r1, by omega, fun _ => ⟨by omega, fun j hj => HALL.out j hj (by omega)⟩⟩, HBEL.out⟩
set_option maxHeartbeats 1000000 in
theorem szBoolSS_any (a : Option Addr) (cap : Nat) (L : List (List Bool)) (left : Int) (w : World) (h0 : 0 ≤ left) (h1 : left ≤ 1048576) (hn : L.length ≤ 9223372036854775807) (hf : ∀ s ∈ L, s.length ≤ 9223372036854775807) (hG : Vs w.heap.size a L w) :
    Calls Try.prog 14 #[.slice a L.length cap, .int .i64 left] w fun e w' => (∃ r : Int, e = .returned (.int .i64 r) ∧ r ≤ 1048576 ∧ -1 ≤ r ∧ (0 ≤ r → L.length ≤ 1048576 ∧ ∀ k (h : k < L.length), L[k].length ≤ 1048576)) ∧ Below w.heap.size w w' := by
  have HG := hid hG
  have HF := hid hf
  clear hG hf
  by_cases g : (L.length : Int) ≤ left
  case neg =>
    have hd : decide (left - (L.length : Int) < 0) = true := by simp; omega
    go_enter Try.func14, Try.ntmps14
    go_wp2_with fail
    go_ret
    exact ⟨⟨-1, rfl, by omega, by omega, fun h => by omega⟩, Below.refl _ _⟩
  have hd : decide (left - (L.length : Int) < 0) = false := by simp; omega
  go_enter Try.func14, Try.ntmps14
  go_wp2_with fail
  go_loopw [1, 5] (fun u i wr => ∃ (k : Nat) (r : Int), k ≤ L.length ∧ i = .int .i64 k ∧ u = .int .i64 r ∧ 0 ≤ r ∧ r ≤ 1048576 ∧ (∀ j (h : j < L.length), j < k → L[j].length ≤ 1048576) ∧ wr = w) (fun _ i _ => L.length - (intOf i).toNat)
  case atStart => exact ⟨0, left - L.length, Nat.zero_le _, rfl, rfl, by omega, by omega, (fun _ _ h => absurd h (Nat.not_lt_zero _)), rfl⟩
  case round =>
    obtain ⟨k, r, hk, rfl, rfl, r0, r1, hall, hwr⟩ := hrel
    subst hwr
    have HALL := hid hall
    clear hall
    by_cases hlt : k < L.length
    · obtain ⟨b, off, rfl, hb, hcl⟩ := HG.out (by omega)
      obtain ⟨p, c, c0, -⟩ := hcl k hlt
      have hf := HF.out L[k] (List.getElem_mem hlt)
      have HNX : Hid (L[k].length ≤ 1048576 → ∀ j (h : j < L.length), j < k + 1 → L[j].length ≤ 1048576) := fun h j hj hjk => by
        by_cases e : j = k
        · subst e; exact h
        · exact HALL.out j hj (by omega)
      clear hcl
      generalize L[k] = l at *
      have HC := hid (fun v => szBoolS_any p c l.length r v r0 r1 hf)
      go_wp2_with fail
      refine (HC.out _).mono ?_
      rintro e w2 ⟨⟨q, rfl, q1, q2, q3⟩, hw2⟩
      rw [hw2]
      have HQ := hid q3
      clear HC hw2 c0 q3 HALL
      by_cases g : q < 0
      · have hdq : decide (q < 0) = true := decide_eq_true g
        go_wp2_with fail
        go_ret
        exact ⟨⟨-1, rfl, by omega, by omega, fun h => by omega⟩, Below.refl _ _⟩
      · have hdq : decide (q < 0) = false := decide_eq_false g
        go_wp2_with fail
        go_roundw
        case rel => exact ⟨k + 1, q, by omega, by go_num, rfl, by omega, q1, HNX.out (HQ.out (by omega)), by trivial⟩
        case measure => simp [intOf]; omega
    · go_wp2_with fail
      go_ret
      exact ⟨⟨r, rfl, r1, by omega, fun _ => ⟨by omega, fun j hj => HALL.out j hj (by omega)⟩⟩, Below.refl _ _⟩
/-- a heap of a size that the laws look at -/
def FitH (S : List Sg) (L : List (List Bool)) : Prop := S.length ≤ 1048576 ∧ (∀ k (h : k < S.length), S[k].bl.length ≤ 1048576) ∧ L.length ≤ 1048576 ∧ ∀ k (h : k < L.length), L[k].length ≤ 1048576
set_option maxHeartbeats 1000000 in
theorem szHeap_any (aS aL : Option Addr) (kS kL : Nat) (S : List Sg) (L : List (List Bool)) (w : World) (hn : S.length ≤ 9223372036854775807) (hf : ∀ s ∈ S, s.bl.length ≤ 9223372036854775807) (hn2 : L.length ≤ 9223372036854775807) (hf2 : ∀ s ∈ L, s.length ≤ 9223372036854775807)
    (hG : Gs w.heap.size aS S w) (hV : Vs w.heap.size aL L w) :
    Calls Try.prog 4 #[.agg #[.slice aS S.length kS, .slice aL L.length kL], .int .i64 1048576] w fun e w' => (∃ r : Int, e = .returned (.int .i64 r) ∧ (0 ≤ r → FitH S L)) ∧ Below w.heap.size w w' := by
  have HB := hid (Bx.start w (.cells #[.slice aS S.length kS, .slice aL L.length kL] 25))
  have y0 := box_cell HB.out.box 0
  have HG := hid ((hG.below HB.out.below).mono HB.out.below.size)
  have HV := hid ((hV.below HB.out.below).mono HB.out.below.size)
  have HF := hid hf
  have HF2 := hid hf2
  clear hG hV hf hf2
  generalize hW : w.alloc (.cells #[.slice aS S.length kS, .slice aL L.length kL] 25) = W at *
  go_enter Try.func4, Try.ntmps4
  go_wp2_with fail
  refine (szSegS_any aS kS S 1048576 W (by omega) (by omega) hn HF.out HG.out).mono ?_
  rintro e w2 ⟨⟨r, rfl, r1, r2, r3⟩, hb2⟩
  have HB2 := hid (HB.out.on hb2)
  have HV2 := hid ((HV.out.below hb2).mono hb2.size)
  have HR := hid r3
  clear hb2 hW y0 r3 HB HV HG
  have y1 := box_cell HB2.out.box 1
  by_cases g : r < 0
  · have hdq : decide (r < 0) = true := decide_eq_true g
    go_wp2_with fail
    go_ret
    exact ⟨⟨-1, rfl, fun h => by omega⟩, HB2.out.below⟩
  have hdq : decide (r < 0) = false := decide_eq_false g
  go_wp2_with fail
  refine (szBoolSS_any aL kL L r w2 (by omega) (by omega) hn2 HF2.out HV2.out).mono ?_
  rintro e w3 ⟨⟨q, rfl, q1, q2, q3⟩, hb3⟩
  have HB3 := hid (HB2.out.on hb3).below
  have HQ := hid q3
  clear hb3 HB2 HV2 y1 q3
  by_cases g2 : q < 0
  · have hdq2 : decide (q < 0) = true := decide_eq_true g2
    go_wp2_with fail
    go_ret
    exact ⟨⟨-1, rfl, fun h => by omega⟩, HB3.out⟩
  · have hdq2 : decide (q < 0) = false := decide_eq_false g2
    go_wp2_with fail
    go_ret
    exact ⟨⟨q, rfl, fun h => ⟨(HR.out (by omega)).1, (HR.out (by omega)).2, (HQ.out h).1, (HQ.out h).2⟩⟩, HB3.out⟩
end Go.Proofs.Ytbomcppkgpfjjaa
