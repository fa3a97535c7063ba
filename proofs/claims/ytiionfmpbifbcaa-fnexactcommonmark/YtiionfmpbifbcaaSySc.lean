/- The model's CommonMark. -/
import Derived.Test.YtiionfmpbifbcaaSyIa
import Derived.Test.YtiionfmpbifbcaaKSet
import Derived.Deep.DeepCutAuto
namespace Go.Proofs.Ytiionfmpbifbcaa
set_option maxRecDepth 100000
open Go Go.ChangeShapes Go.WideShapes Go.ChangeAt Go.RowKit
/-- the mark of layer k can be told -/
def mkAt (A : List Ly) (k : Nat) : Int := (A.map (·.mark)).getD k 0
theorem mkAt_at (A : List Ly) (k : Nat) (h : k < A.length) : mkAt A k = A[k].mark := by
  unfold mkAt
  rw [List.getD_eq_getElem?_getD, List.getElem?_map, List.getElem?_eq_getElem h]
  rfl
def comC (A B : List Ly) (k : Nat) : Bool := decide (k + 1 < A.length) && (decide (fndK B (mkAt A k) + 1 < B.length) && sameK A B (mkAt A k))
def comI (A B : List Ly) : Nat → Int
  | 0 => -1
  | k + 1 => if comC A B k = true then mkAt A k else comI A B k
def comOk (A B : List Ly) : Bool := (goodK A && goodK B) && !decide (comI A B A.length < 0)
def comV (A B : List Ly) : Int := if comOk A B = true then comI A B A.length else 0
theorem fnd_self {A : List Ly} (h : GoodK A) (k : Nat) (hk : k < A.length) : fndK A A[k].mark = k :=
  fndK_at hk rfl (fun j g hj => by have := rise_lt h.2.2 j k hj hk; omega)
theorem com_good {A B : List Ly} (hA : GoodK A) (hB : GoodK B) (k : Nat) (hk : k < A.length) (h : fndK B A[k].mark + 1 < B.length) : BothOk A B A[k].mark := ⟨⟨hA, hB⟩, by rw [fnd_self hA k hk]; exact hk, by omega⟩
set_option maxHeartbeats 8000000 in
theorem scommon_any (a b : Option Addr) (c d : Nat) (A B : List Ly) (w : World) (hA : Mr a c A w) (hB : Mr b d B w) :
    Calls Try.prog 30 #[.agg #[.slice a A.length c], .agg #[.slice b B.length d]] w fun e w' => e = .returned (.tuple #[.int .i64 (comV A B), .bool (comOk A B)]) ∧ Below w.heap.size w w' := by
  have b0 : Below w.heap.size w ((w.alloc (.cells #[.slice a A.length c] 30)).alloc (.cells #[.slice b B.length d] 30)) := (boxB _ _).trans ((boxB _ _).mono (boxB _ _).size)
  have k0 : ((w.alloc (.cells #[.slice a A.length c] 30)).alloc (.cells #[.slice b B.length d] 30)).heap[w.heap.size]? = some (.cells #[.slice a A.length c] 30) := heap_mid2 _ _ _
  have k1 : ((w.alloc (.cells #[.slice a A.length c] 30)).alloc (.cells #[.slice b B.length d] 30)).heap[w.heap.size + 1]? = some (.cells #[.slice b B.length d] 30) := heap_last2 _ _ _
  generalize hW : (w.alloc (.cells #[.slice a A.length c] 30)).alloc (.cells #[.slice b B.length d] 30) = W at *
  have HX : Hid (∀ v, Below W.heap.size W v → v.cell? ⟨w.heap.size, 0, none⟩ = some (.slice a A.length c) ∧ v.cell? ⟨w.heap.size + 1, 0, none⟩ = some (.slice b B.length d)) := fun v g => ⟨box_cell ((g.block _ (kboxS k0)).trans k0) 0, box_cell ((g.block _ (kboxS k1)).trans k1) 0⟩
  have HU : Hid (∀ v, Below W.heap.size W v → Below w.heap.size w v) := fun v g => b0.trans (g.mono b0.size)
  have HA : Hid (∀ v, Below W.heap.size W v → Mr a c A v) := fun v g => hA.on (HU.out v g)
  have HB : Hid (∀ v, Below W.heap.size W v → Mr b d B v) := fun v g => hB.on (HU.out v g)
  have B0 : Hid (Below W.heap.size W W) := Below.refl _ _
  obtain ⟨x0, x1⟩ := HX.out _ B0.out
  have HG1 : Hid (∀ v, Below W.heap.size W v → Calls Try.prog 48 #[.agg #[.slice a A.length c]] v fun e w' => e = .returned (.bool (goodK A)) ∧ Below v.heap.size v w') := fun v g => (HA.out v g).sgood
  have HG2 : Hid (∀ v, Below W.heap.size W v → Calls Try.prog 48 #[.agg #[.slice b B.length d]] v fun e w' => e = .returned (.bool (goodK B)) ∧ Below v.heap.size v w') := fun v g => (HB.out v g).sgood
  have HFB : Hid (∀ v (m : Int), Below W.heap.size W v → Calls Try.prog 54 #[.agg #[.slice b B.length d], .int .i64 m] v fun e w' => e = .returned (.int .i64 (fk B m)) ∧ Below v.heap.size v w') := fun v m g => (HB.out v g).find m
  have HSM : Hid (∀ v (m : Int), BothOk A B m → Below W.heap.size W v → Calls Try.prog 34 #[.agg #[.slice a A.length c], .agg #[.slice b B.length d], .int .i64 m] v fun e w' => e = .returned (.bool (sameK A B m)) ∧ Below v.heap.size v w') := fun v m h g => l15Same_any a b c d A B m v (HA.out v g) (HB.out v g) h
  have HYA : Hid (∀ v, Below W.heap.size W v → Ys v.heap.size a A v) := fun v g => (HA.out v g).ys
  clear hA hB k0 k1 b0 HA HB
  have HE : Hid (comOk A B = ((goodK A && goodK B) && !decide (comI A B A.length < 0)) ∧ comV A B = if comOk A B = true then comI A B A.length else 0) := ⟨rfl, rfl⟩
  obtain ⟨o, ho⟩ : ∃ o, comOk A B = o := ⟨_, rfl⟩
  obtain ⟨u, hu⟩ : ∃ u, comV A B = u := ⟨_, rfl⟩
  rw [ho, hu] at HE
  rw [ho, hu]
  clear ho hu
  go_enter Try.func30, Try.ntmps30
  go_wp2_with fail
  clear hW
  refine (HG1.out _ B0.out).mono ?_
  rintro e w1 ⟨rfl, g1⟩
  have B1 : Hid (Below W.heap.size W w1) := B0.out.trans (g1.mono B0.out.size)
  clear g1 x0 x1
  obtain ⟨x0, x1⟩ := HX.out _ B1.out
  by_cases hg1 : GoodK A
  case neg =>
    have E1 : Hid (o = false ∧ u = 0) := by
      have e1 : o = false := by rw [HE.out.1, goodK_no hg1]; rfl
      exact ⟨e1, by rw [HE.out.2, e1]; rfl⟩
    rw [goodK_no hg1]
    clear hg1 HSM HE
    go_wp2_with fail
    go_ret2
    rw [E1.out.1, E1.out.2]
    exact ⟨rfl, HU.out _ B1.out⟩
  have GA := hid hg1
  rw [goodK_iff.2 hg1]
  clear hg1
  go_wp2_with fail
  refine (HG2.out _ B1.out).mono ?_
  rintro e w2 ⟨rfl, g2⟩
  have B2 : Hid (Below W.heap.size W w2) := B1.out.trans (g2.mono B1.out.size)
  clear g2 x0 x1
  obtain ⟨x0, x1⟩ := HX.out _ B2.out
  by_cases hg2 : GoodK B
  case neg =>
    have E1 : Hid (o = false ∧ u = 0) := by
      have e1 : o = false := by rw [HE.out.1, goodK_no hg2, goodK_iff.2 GA.out]; rfl
      exact ⟨e1, by rw [HE.out.2, e1]; rfl⟩
    rw [goodK_no hg2]
    clear hg2 HSM HE
    go_wp2_with fail
    go_ret2
    rw [E1.out.1, E1.out.2]
    exact ⟨rfl, HU.out _ B2.out⟩
  have GB := hid hg2
  have E0 : Hid (o = !decide (comI A B A.length < 0)) := by show o = _; rw [HE.out.1, goodK_iff.2 GA.out, goodK_iff.2 hg2]; rfl
  rw [goodK_iff.2 hg2]
  clear hg2 HG1 HG2
  have HLA : Hid (1 ≤ A.length ∧ A.length ≤ 8 ∧ 1 ≤ B.length ∧ B.length ≤ 8) := ⟨GA.out.1, GA.out.2.1, GB.out.1, GB.out.2.1⟩
  obtain ⟨na, hna⟩ : ∃ na, A.length = na + 1 := ⟨A.length - 1, by have := HLA.out.1; omega⟩
  obtain ⟨nb, hnb⟩ : ∃ nb, B.length = nb + 1 := ⟨B.length - 1, by have := HLA.out.2.2.1; omega⟩
  have hpa := pred_wrap na (by have := HLA.out; omega)
  have hpb := pred_wrap nb (by have := HLA.out; omega)
  have hna7 : na ≤ 7 := by have := HLA.out; omega
  have hnb7 : nb ≤ 7 := by have := HLA.out; omega
  have hwa : wrap64 (na : Int) = na := by have := HLA.out; unfold wrap64; omega
  have hwb : wrap64 (nb : Int) = nb := by have := HLA.out; unfold wrap64; omega
  have HNA := hid hna
  have HNB := hid hnb
  rw [hna] at x0 HX HSM
  rw [hnb] at x1 HX HFB HSM
  go_wp2_with fail
  clear x0 x1
  go_loopw [6, 20] (fun s i wr => ∃ k : Nat, k ≤ na + 1 ∧ i = .int .i64 k ∧ s = .int .i64 (comI A B k) ∧ Below W.heap.size W wr) (fun _ i _ => na + 1 - (intOf i).toNat)
  case atStart => exact ⟨0, Nat.zero_le _, rfl, rfl, B2.out⟩
  case round =>
    obtain ⟨k, hk, rfl, rfl, hbel⟩ := hrel
    have HBR := hid hbel
    have HBI := hid (HLA.out)
    by_cases hlt : k < na + 1
    · have hkA : k < A.length := by omega
      obtain ⟨ba, off, rfl, hb, hcl⟩ := HYA.out _ hbel (by omega)
      obtain ⟨p, k1, q, k2, c0, c1, c2, -, -⟩ := hcl k hkA
      have HI1 : Hid (comI A B (k + 1) = if comC A B k = true then mkAt A k else comI A B k) := rfl
      have HCC : Hid (comC A B k = (decide (k + 1 < A.length) && (decide (fndK B (mkAt A k) + 1 < B.length) && sameK A B (mkAt A k)))) := rfl
      have HMK := hid (mkAt_at A k hkA)
      have HBO : Hid (fndK B A[k].mark + 1 < B.length → BothOk A B A[k].mark) := com_good GA.out GB.out k hkA
      rw [HMK.out] at HI1 HCC
      have hfk : fk B A[k].mark = if fndK B A[k].mark < B.length then ((fndK B A[k].mark : Nat) : Int) else -1 := rfl
      have hfl := fndK_le B A[k].mark
      have HFK := hid hfk
      clear hcl hbel hfk HMK
      generalize A[k].mark = mk at *
      generalize A[k].bl.length = nbl at *
      generalize A[k].dt.length = ndt at *
      generalize comI A B k = ci at *
      generalize comC A B k = cc at *
      generalize hcn : comI A B (k + 1) = cn at *
      have HCN := hid hcn
      clear hcn
      have HK1 : Hid (k + 1 ≤ na + 1) := hlt
      rw [HNA.out, HNB.out] at HCC
      rw [HNB.out] at HFK HBO hfl
      obtain ⟨fb, hfb⟩ : ∃ fb, fndK B mk = fb := ⟨_, rfl⟩
      rw [hfb] at HCC HFK HBO hfl
      have hb2 := boxB wr (.cells #[.int .i64 mk, .slice p nbl k1, .slice q ndt k2] 79)
      have HL2 := hid (heap_last wr (.cells #[.int .i64 mk, .slice p nbl k1, .slice q ndt k2] 79))
      have HB2 := hid (HBR.out.trans (hb2.mono HBR.out.size))
      clear hb2 hfb
      go_upto_region 7 with fail
      generalize wr.alloc (.cells #[.int .i64 mk, .slice p nbl k1, .slice q ndt k2] 79) = W2 at *
      clear c0 c1 c2
      have hs0 : ∀ s : Gw W2, s.v.cell? ⟨w.heap.size, 0, none⟩ = some (.slice (some ⟨ba, off, none⟩) (na + 1) c) := fun s => (HX.out _ (HB2.out.trans (s.b.mono HB2.out.size))).1
      have hs1 : ∀ s : Gw W2, s.v.cell? ⟨w.heap.size + 1, 0, none⟩ = some (.slice b (nb + 1) d) := fun s => (HX.out _ (HB2.out.trans (s.b.mono HB2.out.size))).2
      have hs2 : ∀ s : Gw W2, s.v.cell? ⟨wr.heap.size, 0, none⟩ = some (.int .i64 mk) := fun s => box_cell ((s.b.block _ (kboxS HL2.out)).trans HL2.out) 0
      have P1 : Hid (∀ s : Gw W2, Calls Try.prog 54 #[.agg #[.slice b (nb + 1) d], .int .i64 mk] s.v fun e w'' => e = .returned (.int .i64 (fk B mk)) ∧ ∃ s' : Gw W2, w'' = s'.v) := fun s => grown_of (HFB.out s.v mk (HB2.out.trans (s.b.mono HB2.out.size)))
      have P2 : Hid (BothOk A B mk → ∀ s : Gw W2, Calls Try.prog 34 #[.agg #[.slice (some ⟨ba, off, none⟩) (na + 1) c], .agg #[.slice b (nb + 1) d], .int .i64 mk] s.v fun e w'' => e = .returned (.bool (sameK A B mk)) ∧ ∃ s' : Gw W2, w'' = s'.v) := fun h s => grown_of (HSM.out s.v mk h (HB2.out.trans (s.b.mono HB2.out.size)))
      have hne : Nonempty (Gw W2) := ⟨⟨W2, Below.refl _ _⟩⟩
      have hcl : ∀ s : Gw W2, ∃ s' : Gw W2, s.v = s'.v := fun s => ⟨s, rfl⟩
      by_cases q1 : k < na
      case neg =>
        have d1 : decide ((k : Int) < (na : Int)) = false := decide_eq_false (by omega)
        have HN : Hid (cn = ci) := by
          show cn = ci
          rw [HI1.out, HCC.out, decide_eq_false (by omega)]
          rfl
        refine region_grown W2 (Below.refl _ _) (by kernel_rfl) (by kernel_rfl) ?_
        repeat (go_big_quiet_step (fail))
        refine wpQuiet_nil ?_
        rintro _ ⟨s, rfl⟩
        have hb := hid (HB2.out.trans (s.b.mono HB2.out.size))
        clear hs0 hs1 hs2 P1 P2 hne hcl
        go_wp2_with fail
        go_roundw
        case rel => exact ⟨k + 1, HK1.out, by have := HK1.out; go_num, by rw [HCN.out, HN.out], hb.out⟩
        case measure => have := HK1.out; simp [intOf]; omega
      have d1 : decide ((k : Int) < (na : Int)) = true := decide_eq_true (by omega)
      by_cases q2 : fb < nb + 1
      case neg =>
        have e2 : fk B mk = -1 := by rw [HFK.out, if_neg q2]
        rw [e2] at P1
        have HN : Hid (cn = ci) := by
          show cn = ci
          rw [HI1.out, HCC.out, decide_eq_false (show ¬ fb + 1 < nb + 1 by omega), Bool.false_and, Bool.and_false]
          rfl
        refine region_grown W2 (Below.refl _ _) (by kernel_rfl) (by kernel_rfl) ?_
        repeat (go_big_quiet_step ((go_at_call 54; with_reducible exact P1.out _)))
        refine wpQuiet_nil ?_
        rintro _ ⟨s, rfl⟩
        have hb := hid (HB2.out.trans (s.b.mono HB2.out.size))
        clear hs0 hs1 hs2 P1 P2 hne hcl
        go_wp2_with fail
        go_roundw
        case rel => exact ⟨k + 1, HK1.out, by have := HK1.out; go_num, by rw [HCN.out, HN.out], hb.out⟩
        case measure => have := HK1.out; simp [intOf]; omega
      have e2 : fk B mk = (fb : Int) := by rw [HFK.out, if_pos q2]
      rw [e2] at P1
      have d2 : decide ((0 : Int) ≤ (fb : Int)) = true := decide_eq_true (by omega)
      by_cases q3 : fb < nb
      case neg =>
        have d3 : decide ((fb : Int) < (nb : Int)) = false := decide_eq_false (by omega)
        have HN : Hid (cn = ci) := by
          show cn = ci
          rw [HI1.out, HCC.out, decide_eq_false (show ¬ fb + 1 < nb + 1 by omega), Bool.false_and, Bool.and_false]
          rfl
        refine region_grown W2 (Below.refl _ _) (by kernel_rfl) (by kernel_rfl) ?_
        repeat (go_big_quiet_step ((go_at_call 54; with_reducible exact P1.out _)))
        refine wpQuiet_nil ?_
        rintro _ ⟨s, rfl⟩
        have hb := hid (HB2.out.trans (s.b.mono HB2.out.size))
        clear hs0 hs1 hs2 P1 P2 hne hcl
        go_wp2_with fail
        go_roundw
        case rel => exact ⟨k + 1, HK1.out, by have := HK1.out; go_num, by rw [HCN.out, HN.out], hb.out⟩
        case measure => have := HK1.out; simp [intOf]; omega
      have d3 : decide ((fb : Int) < (nb : Int)) = true := decide_eq_true (by omega)
      have P3 := hid (P2.out (HBO.out (by omega)))
      have HN : Hid (cn = if sameK A B mk = true then mk else ci) := by
        show cn = _
        rw [HI1.out, HCC.out, decide_eq_true (show k + 1 < na + 1 by omega), decide_eq_true (show fb + 1 < nb + 1 by omega), Bool.true_and, Bool.true_and]
      clear P2 HBO HCC
      generalize sameK A B mk = sm at *
      refine region_grown W2 (Below.refl _ _) (by kernel_rfl) (by kernel_rfl) ?_
      repeat (go_big_quiet_step ((first | (go_at_call 54; with_reducible exact P1.out _) | (go_at_call 34; with_reducible exact P3.out _))))
      refine wpQuiet_nil ?_
      rintro _ ⟨s, rfl⟩
      have hb := hid (HB2.out.trans (s.b.mono HB2.out.size))
      have z0 := hs2 s
      clear hs0 hs1 hs2 P1 P3 hne hcl
      cases sm
      · go_wp2_with fail
        go_roundw
        case rel => exact ⟨k + 1, HK1.out, by have := HK1.out; go_num, by rw [HCN.out, HN.out]; rfl, hb.out⟩
        case measure => have := HK1.out; simp [intOf]; omega
      · go_wp2_with fail
        go_roundw
        case rel => exact ⟨k + 1, HK1.out, by have := HK1.out; go_num, by rw [HCN.out, HN.out]; rfl, hb.out⟩
        case measure => have := HK1.out; simp [intOf]; omega
    · obtain rfl : k = na + 1 := by omega
      have E2 : Hid (u = if o = true then comI A B (na + 1) else 0) := by show u = _; rw [HE.out.2, HNA.out]
      have E3 : Hid (o = !decide (comI A B (na + 1) < 0)) := by show o = _; rw [E0.out, HNA.out]
      clear hbel HE E0
      generalize comI A B (na + 1) = ci at *
      by_cases q : ci < 0
      · have d1 : decide (ci < 0) = true := decide_eq_true q
        have E4 : Hid (o = false) := by show o = false; rw [E3.out, d1]; rfl
        have E5 : Hid (u = 0) := by show u = 0; rw [E2.out, E4.out]; rfl
        clear E2 E3
        go_wp2_with fail
        go_ret2
        rw [E4.out, E5.out]
        exact ⟨rfl, HU.out _ HBR.out⟩
      · have d1 : decide (ci < 0) = false := decide_eq_false q
        have E4 : Hid (o = true) := by show o = true; rw [E3.out, d1]; rfl
        have E5 : Hid (u = ci) := by show u = ci; rw [E2.out, E4.out]; rfl
        clear E2 E3
        go_wp2_with fail
        go_ret2
        rw [E4.out, E5.out]
        exact ⟨rfl, HU.out _ HBR.out⟩
end Go.Proofs.Ytiionfmpbifbcaa
