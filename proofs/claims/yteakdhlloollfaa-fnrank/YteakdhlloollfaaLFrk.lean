/- The law on ranks: its walk out of the contracts. -/
import Derived.Test.YteakdhlloollfaaPTel
import Derived.Deep.DeepCutAuto
import Derived.Deep.QuietTactic
import Derived.BigQuiet
namespace Go.Proofs.Yteakdhlloollfaa
set_option maxRecDepth 100000
open Go Go.ChangeShapes Go.WideShapes Go.ChangeAt Go.RowKit
set_option maxHeartbeats 2500000 in
theorem rank_small (l1 c1 l2 c2 : Nat) (a1 a2 : Option Addr) (w : World) (h12 : l1 + l2 ≤ 1048576) (hK1 : Code w.heap.size l1 c1 a1 w) (hK2 : Code w.heap.size l2 c2 a2 w) :
    Calls Try.prog 3 #[.slice a1 l1 c1, .slice a2 l2 c2] w fun e w' => e = .returned (.bool true) ∧ Below w.heap.size w w' := by
  have hd : decide ((1048576 : Int) < (l1 : Int) + (l2 : Int)) = false := by simp; omega
  have HK1 := hid hK1
  have HS : Hid (S8 w [] l2 c2 a2 w) := ⟨Below.refl _ _, hK2, (fun _ h => by cases h)⟩
  clear hK1 hK2
  go_enter Try.func3, Try.ntmps3
  go_wp2_with fail
  refine (drawReduce_any l1 c1 a1 _ HK1.out).mono ?_
  rintro e w1 ⟨nm, l, b, c, rfl, hm7, hl, hx, hb⟩
  have HS1 : Hid (S8 w [(b, l)] l2 c2 a2 w1) := (HS.out.on hb).add hx
  clear HS HK1 hb hx
  have HRI : Hid (∀ v, Is v.heap.size b l v → Calls Try.prog 5 #[.int .i64 (nm : Int), .slice b l.length c] v fun e w' => LOut (redV nm l) (maskOk nm l) v e w') := fun v hv => iReduceMasks_any _ b c l v (by omega) hv
  have HRS : Hid (∀ v, Is v.heap.size b l v → Calls Try.prog 6 #[.int .i64 (nm : Int), .slice b l.length c] v fun e w' => LOut (redV nm l) (maskOk nm l) v e w') := fun v hv => sReduceMasks_any _ b c l v (by omega) hv
  have HKI : Hid (∀ v, Is v.heap.size b l v → Calls Try.prog 7 #[.int .i64 (nm : Int), .slice b l.length c] v fun e w' => e = .returned (.tuple #[.int .i64 (rankV nm l), .bool (maskOk nm l)]) ∧ Below v.heap.size v w') := fun v hv => iRankOf_any _ b c l v (by omega) hv
  have HKS : Hid (∀ v, Is v.heap.size b l v → Calls Try.prog 8 #[.int .i64 (nm : Int), .slice b l.length c] v fun e w' => e = .returned (.tuple #[.int .i64 (rankV nm l), .bool (maskOk nm l)]) ∧ Below v.heap.size v w') := fun v hv => sRankOf_any _ b c l v (by omega) hv
  have HF : Hid (maskOk nm l = true → (redV nm l).length ≤ 20 ∧ rankV nm l = ((redV nm l).length : Int) ∧ rankV nm l ≤ (nm : Int) ∧ rankV nm l ≤ (l.length : Int) ∧ maskOk nm (redV nm l) = true ∧ redV nm (redV nm l) = redV nm l ∧
    (∀ m ∈ l, spanOk nm (redV nm l) m = true ∧ spanV nm (redV nm l) m = true) ∧ (∀ m ∈ redV nm l, spanOk nm l m = true ∧ spanV nm l m = true) ∧ (∀ (i : Nat) (x y : Int), (redV nm l)[i]? = some x → (redV nm l)[i + 1]? = some y → y < x)) := fun h => rank_facts h
  have hVl : (redV nm l).length ≤ 1048576 := redV_len _ _ (by omega)
  generalize redV nm l = V at *
  generalize rankV nm l = r at *
  generalize maskOk nm l = ok at *
  go_wp2_with fail
  refine (HRI.out _ (HS1.out.i b l (by simp))).mono ?_
  rintro e w2 ⟨b2, d2, rfl, hx, hb⟩
  have HS2 : Hid (S8 w [(b2, V), (b, l)] l2 c2 a2 w2) := (HS1.out.on hb).add hx.is
  clear HS1 hb hx HRI
  go_wp2_with fail
  refine (HRS.out _ (HS2.out.i b l (by simp))).mono ?_
  rintro e w3 ⟨b3, d3, rfl, hx, hb⟩
  have HS3 : Hid (S8 w [(b3, V), (b2, V), (b, l)] l2 c2 a2 w3) := (HS2.out.on hb).add hx.is
  clear HS2 hb hx HRS
  go_wp2_with fail
  refine (HKI.out _ (HS3.out.i b l (by simp))).mono ?_
  rintro e w4 ⟨rfl, hb⟩
  have HS4 := hid (HS3.out.on hb)
  clear HS3 hb HKI
  go_wp2_with fail
  refine (HKS.out _ (HS4.out.i b l (by simp))).mono ?_
  rintro e w5 ⟨rfl, hb⟩
  have HS5 := hid (HS4.out.on hb)
  clear HS4 hb HKS
  go_wp2_with fail
  refine (sameInts_same b2 b3 d2 d3 V _ hVl (HS5.out.i b2 V (by simp)) (HS5.out.i b3 V (by simp))).mono ?_
  rintro e w6 ⟨rfl, hb⟩
  have HS6 := hid (HS5.out.on hb)
  clear HS5 hb
  go_upto_if 86 with fail
  go_cut [] (fun wd => S8 w [] l2 c2 a2 wd)
  case first =>
    as_aux_lemma =>
      cases ok
      · go_wp2_with fail
        go_meet
        case rel => exact HS6.out.bare
      · obtain ⟨f1, f2, f3, f4, f5, f6, f7, f8, f9⟩ := HF.out rfl
        have HRI : Hid (∀ v, Is v.heap.size b2 V v → Calls Try.prog 5 #[.int .i64 (nm : Int), .slice b2 V.length d2] v fun e w' => LOut V true v e w') := fun v hv => by
          have := iReduceMasks_any (nm : Int) b2 d2 V v (by omega) hv
          rwa [f5, f6] at this
        have HSA : Hid (∀ v m, m ∈ l → Is v.heap.size b2 V v → Calls Try.prog 10 #[.int .i64 (nm : Int), .slice b2 V.length d2, .int .i64 m] v fun e w' => e = .returned (.tuple #[.bool true, .bool true]) ∧ Below v.heap.size v w') := fun v m hm hv => by
          have := iInSpan_any (nm : Int) b2 d2 V m v (by omega) hv
          rwa [(f7 m hm).1, (f7 m hm).2] at this
        have HSB : Hid (∀ v m, m ∈ V → Is v.heap.size b l v → Calls Try.prog 10 #[.int .i64 (nm : Int), .slice b l.length c, .int .i64 m] v fun e w' => e = .returned (.tuple #[.bool true, .bool true]) ∧ Below v.heap.size v w') := fun v m hm hv => by
          have := iInSpan_any (nm : Int) b c l m v (by omega) hv
          rwa [(f8 m hm).1, (f8 m hm).2] at this
        have HF9 := hid f9
        have d1 : decide ((nm : Int) < r) = false := decide_eq_false (by omega)
        have d3' : decide ((l.length : Int) < r) = false := decide_eq_false (by omega)
        have HV20 := hid f1
        subst f2
        have e1 : ((V.length : Int) != (V.length : Int)) = false := by simp
        have d1' : decide ((nm : Int) < (V.length : Int)) = false := d1
        have d2' : decide ((l.length : Int) < (V.length : Int)) = false := d3'
        have n1 : decide (nm < V.length) = false := decide_eq_false (by omega)
        have n2 : decide (l.length < V.length) = false := decide_eq_false (by omega)
        clear f1 f3 f4 f5 f6 f7 f8 f9 HF d1 d3'
        go_wp2_with fail
        refine (HRI.out _ (HS6.out.i b2 V (by simp))).mono ?_
        rintro e w7 ⟨b7, d7, rfl, hx, hb⟩
        have HS7 : Hid (S8 w [(b7, V), (b3, V), (b2, V), (b, l)] l2 c2 a2 w7) := (HS6.out.on hb).add hx.is
        clear HS6 hb hx HRI
        go_wp2_with fail
        refine (sameInts_same b7 b2 d7 d2 V _ hVl (HS7.out.i b7 V (by simp)) (HS7.out.i b2 V (by simp))).mono ?_
        rintro e w8 ⟨rfl, hb⟩
        have HS8 := hid (HS7.out.on hb)
        clear HS7 hb e1 d1' d2' n1 n2
        go_wp2_with fail
        go_loopw [124] (fun i wr => ∃ j : Nat, j ≤ l.length ∧ i = .int .i64 j ∧ S8 w [(b7, V), (b3, V), (b2, V), (b, l)] l2 c2 a2 wr) (fun i _ => l.length - (ivl i).toNat)
        case atStart => exact ⟨0, Nat.zero_le _, rfl, HS8.out⟩
        case round =>
          clear HS8
          obtain ⟨j, hj, rfl, hs⟩ := hrel
          have HS := hid hs
          clear hs
          by_cases hlt : j < l.length
          · obtain ⟨bb, off, hbb, hbl, hc⟩ := (HS.out.i b l (by simp)).cell (by omega)
            have x0 := hc j hlt
            have HM := hid (List.getElem_mem hlt)
            clear hc
            generalize l[j] = m at *
            have HSA' := hid (HSA.out wr m HM.out (HS.out.i b2 V (by simp)))
            subst hbb
            go_wp2_with fail
            refine HSA'.out.mono ?_
            rintro e w9 ⟨rfl, hb⟩
            have HS9 := hid (HS.out.on hb)
            clear hb HS HSA'
            go_wp2_with fail
            go_roundw
            case rel => exact ⟨j + 1, by omega, by go_num, HS9.out⟩
            case measure => simp [ivl]; omega
          · obtain rfl : j = l.length := by omega
            go_wp2_with fail
            go_loopw [144] (fun i wr => ∃ j : Nat, j ≤ V.length ∧ i = .int .i64 j ∧ S8 w [(b7, V), (b3, V), (b2, V), (b, l)] l2 c2 a2 wr) (fun i _ => V.length - (ivl i).toNat)
            case atStart => exact ⟨0, Nat.zero_le _, rfl, HS.out⟩
            case round =>
              clear HS
              obtain ⟨j, hj, rfl, hs⟩ := hrel
              have HS := hid hs
              clear hs
              by_cases hlt : j < V.length
              · obtain ⟨bb, off, hbb, hbl, hc⟩ := (HS.out.i b2 V (by simp)).cell (by omega)
                have x0 := hc j hlt
                have HM := hid (List.getElem_mem hlt)
                have HSB' := hid (HSB.out wr V[j] HM.out (HS.out.i b l (by simp)))
                cases j with
                | zero =>
                  clear hc
                  generalize V[0] = m at *
                  have x1 : wr.cell? ⟨bb, off, none⟩ = some (.int .i64 m) := x0
                  clear x0
                  subst hbb
                  go_wp2_with fail
                  refine HSB'.out.mono ?_
                  rintro e w9 ⟨rfl, hb⟩
                  have HS9 := hid (HS.out.on hb)
                  clear hb HS HSB'
                  go_wp2_with fail
                  go_roundw
                  case rel => exact ⟨1, by omega, by go_num, HS9.out⟩
                  case measure => simp [ivl]; omega
                | succ j =>
                  have y0 := hc j (by omega)
                  have hfall := HF9.out j V[j] V[j + 1] (List.getElem?_eq_getElem (by omega)) (List.getElem?_eq_getElem hlt)
                  have hdf : decide (V[j] ≤ V[j + 1]) = false := decide_eq_false (by omega)
                  have hd0 : decide ((0 : Int) < ((j + 1 : Nat) : Int)) = true := decide_eq_true (by omega)
                  have hj1 : ((j + 1 : Nat) : Int) - 1 = (j : Int) := by omega
                  clear hc hfall
                  generalize V[j + 1] = m at *
                  generalize V[j] = p at *
                  subst hbb
                  go_wp2_with fail
                  refine HSB'.out.mono ?_
                  rintro e w9 ⟨rfl, hb⟩
                  have HS9 := hid (HS.out.on hb)
                  have y1 := (hb.cell (p := ⟨bb, off + j, none⟩) hbl).trans y0
                  clear hb HS HSB' y0 x0
                  go_wp2_with fail
                  go_roundw
                  case rel => exact ⟨j + 1 + 1, by omega, by go_num, HS9.out⟩
                  case measure => simp [ivl]; omega
              · go_wp2_with fail
                go_meet
                case rel => exact HS.out.bare
  case rest =>
    as_aux_lemma =>
      have HS := hid hcut
      clear hcut HF HS6
      clear hVl hl
      go_wp2_with fail
      refine (drawInSpan_any l2 c2 a2 _ HS.out.draw).mono ?_
      rintro e w1 ⟨m, l, b, c, x, rfl, _, hl, hx, hb⟩
      have HS1 : Hid (S8 w [(b, l)] l2 c2 a2 w1) := (HS.out.on hb).add hx
      have HI := hid (fun v (hv : Is v.heap.size b l v) => iInSpan_any (m : Int) b c l x v (by omega) hv)
      have HT := hid (fun v (hv : Is v.heap.size b l v) => sInSpan_any (m : Int) b c l x v (by omega) hv)
      generalize spanV (m : Int) l x = sv at *
      generalize spanOk (m : Int) l x = so at *
      clear hb hx HS
      go_wp2_with fail
      refine (HI.out _ (HS1.out.i b l (by simp))).mono ?_
      rintro e w2 ⟨rfl, hb⟩
      have HS2 := hid (HS1.out.on hb)
      clear HS1 hb HI
      go_wp2_with fail
      refine (HT.out _ (HS2.out.i b l (by simp))).mono ?_
      rintro e w3 ⟨rfl, hb⟩
      have HS3 := hid (HS2.out.on hb)
      clear HS2 hb HT
      go_wp2
      go_ret
      exact ⟨rfl, HS3.out.below⟩
set_option maxHeartbeats 400000 in
theorem rank_big (l1 c1 l2 c2 : Nat) (a1 a2 : Option Addr) (w : World) (h1 : l1 ≤ 4611686018427387903) (h2 : l2 ≤ 4611686018427387903) (h12 : ¬ l1 + l2 ≤ 1048576) :
    Calls Try.prog 3 #[.slice a1 l1 c1, .slice a2 l2 c2] w fun e w' => e = .returned (.bool true) ∧ Below w.heap.size w w' := by
  have hd : decide ((1048576 : Int) < (l1 : Int) + (l2 : Int)) = true := by simp; omega
  go_enter Try.func3, Try.ntmps3
  go_wp2_with fail
  go_ret
  exact ⟨rfl, Below.refl _ _⟩
end Go.Proofs.Yteakdhlloollfaa
