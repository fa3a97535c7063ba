/- The law on deltas: its walk out of the contracts. -/
import Derived.Test.YtfkcfachbfbmpaaTSm
import Derived.Deep.DeepCutAuto
namespace Go.Proofs.Ytfkcfachbfbmpaa
set_option maxRecDepth 100000
open Go Go.ChangeShapes Go.WideShapes Go.ChangeAt Go.RowKit
/-- what is told of a delta that was found -/
structure Told (o s : ByteArray) (V : List Pt) : Prop where
  good : goodD o V = true
  ap : applyV o V = s
  c60 : decide (V.length ≤ 60) = true
  cost : costV V ≤ 2 * s.size
  self : o = s → 4 ≤ s.size → V.length = 1
theorem told_of {o s : ByteArray} (h : dltOk o s = true) : Told o s (dltV o s) := by
  unfold dltOk at h
  rw [Bool.and_eq_true] at h
  have h1 := of_decide_eq_true h.1
  have h2 := of_decide_eq_true h.2
  rw [(dltV_yes h1 h2).2]
  have hf := found_of o s h2
  have hg := hf.good h1 h2
  have hl : (dlt o s [] 0 0).length ≤ 60 := by have := hf.ln; omega
  refine ⟨hg, by rw [applyV_yes hg, hf.ap], decide_eq_true hl, ?_, fun e h4 => by subst e; exact dlt_self o h4⟩
  unfold costV
  rw [decide_eq_true hl]
  exact hf.co
/-- what is told of two deltas, one behind the other -/
structure Told2 (o : ByteArray) (a b X : List Pt) : Prop where
  g1 : goodD o a = true
  g2 : goodD (applyV o a) b = true
  g3 : goodD o X = true
  ap : applyV o X = applyV (applyV o a) b
theorem told2_of {o : ByteArray} {a b : List Pt} (h : thenOk o a b = true) : Told2 o a b (thenV o a b) := by
  unfold thenOk at h
  rw [Bool.and_eq_true] at h
  have h1 := (goodD_parts h.1).1
  have h2 := apply_size h.2
  rw [(then_yes h.1 h.2).2]
  have hf := found_of o (applyL (applyL o a) b) h2
  have hg := hf.good h1 h2
  refine ⟨h.1, by rw [applyV_yes h.1]; exact h.2, hg, ?_⟩
  rw [applyV_yes hg, hf.ap, applyV_yes h.1, applyV_yes h.2]
theorem then_small (o : ByteArray) (a b : List Pt) : ∀ p ∈ thenV o a b, SmP p := by
  cases h1 : goodD o a
  · rw [(then_no1 h1).2]; exact fun p hp => by cases hp
  · cases h2 : goodD (applyL o a) b
    · rw [(then_no2 h2).2]; exact fun p hp => by cases hp
    · rw [(then_yes h1 h2).2]
      exact fun p hp => smp_ok (goodD_parts h1).1 ((found_of o _ (apply_size h2)).ok p hp)
theorem smp_tx {l : List Pt} (h : ∀ p ∈ l, SmP p) : ∀ r ∈ l, r.tx.size ≤ 1048576 := fun r hr => by have := h r hr; unfold SmP at this; omega
theorem pin_in {b : Option Addr} {l : List Pt} {w : World} (h : InT b l w) (v : World) (hZ : Pts v.heap.size b l v) : PIn b l v :=
  ⟨Nat.le_trans h.1 (by decide), (smp_fit h.2.1).1, (smp_fit h.2.1).2, fun _ g => (hZ.below g).mono g.size⟩
set_option maxHeartbeats 8000000 in
theorem delta_small (l1 c1 l2 c2 : Nat) (a1 a2 : Option Addr) (w : World) (h12 : l1 + l2 ≤ 1048576) (hK1 : Code w.heap.size l1 c1 a1 w) (hK2 : Code w.heap.size l2 c2 a2 w) :
    Calls Try.prog 3 #[.slice a1 l1 c1, .slice a2 l2 c2] w fun e w' => e = .returned (.bool true) ∧ Below w.heap.size w w' := by
  have hd : decide ((1048576 : Int) < (l1 : Int) + (l2 : Int)) = false := by simp; omega
  have HK1 := hid hK1
  have HS : Hid (S11 w [] [] l2 c2 a2 w) := ⟨Below.refl _ _, hK2, (fun _ h => by cases h), (fun _ h => by cases h)⟩
  clear hK1 hK2
  go_enter Try.func3, Try.ntmps3
  go_wp2_with fail
  refine (drawDelta_any l1 c1 a1 _ HK1.out).mono ?_
  rintro e w1 ⟨o, s, rfl, ho, hs, hb⟩
  have HS1 := hid (HS.out.on hb)
  clear HS HK1 hb
  have HDI := hid (iDelta_any o s)
  have HDS := hid (sDeltaOf_any o s)
  have HTO : Hid (dltOk o s = true → Told o s (dltV o s)) := told_of
  have HSM := hid (dltV_small o s)
  have hVl : (dltV o s).length ≤ 1048576 := Nat.le_trans (dltV_len o s) (by decide)
  generalize dltV o s = V at *
  generalize dltOk o s = ok at *
  have hbk : (ok != ok) = false := by cases ok <;> rfl
  go_wp2_with fail
  refine (HDI.out _).mono ?_
  rintro e w2 ⟨b2, d2, rfl, hx, hb⟩
  have HS2 : Hid (S11 w [] [(b2, V)] l2 c2 a2 w2) := (HS1.out.on hb).addT hx.ts
  clear HS1 hb hx HDI
  go_wp2_with fail
  refine (HDS.out _).mono ?_
  rintro e w3 ⟨b3, d3, rfl, hx, hb⟩
  have HS3 : Hid (S11 w [] [(b3, V), (b2, V)] l2 c2 a2 w3) := (HS2.out.on hb).addT hx.ts
  clear HS2 hb hx HDS
  go_wp2_with fail
  refine (sameParts_same b2 b3 d2 d3 V _ hVl (HS3.out.t b2 V (by simp)) (HS3.out.t b3 V (by simp))).mono ?_
  rintro e w4 ⟨rfl, hb⟩
  have HS4 := hid (HS3.out.on hb)
  clear HS3 hb
  go_upto_if 71 with fail
  go_cut [11, 12, 13, 14] (fun _ _ _ _ wd => S11 w [] [] l2 c2 a2 wd)
  case first =>
    as_aux_lemma =>
      cases ok
      · go_wp2_with fail
        go_meet
        case rel => exact HS4.out.bare
      · have hT := HTO.out rfl
        have HF := hid (smp_fit HSM.out)
        have HAP := hid (fun v (hv : Pts v.heap.size b2 V v) => iApply_any o b2 d2 V v HF.out.1 HF.out.2 hv)
        have HCO := hid (fun v (hv : Pts v.heap.size b2 V v) => iCost_any b2 d2 V v (smp_tx HSM.out) hv)
        have HGO := hid (fun v (hv : Pts v.heap.size b2 V v) => iGood_any o b2 d2 V v HF.out.1 HF.out.2 hv)
        rw [hT.good] at HAP HGO
        rw [hT.ap] at HAP
        rw [hT.c60] at HCO
        have hcost := hT.cost
        have HSF := hid hT.self
        clear hT HTO
        generalize costV V = cv at *
        have dco : decide ((2 : Int) * (s.size : Int) < (cv : Int)) = false := decide_eq_false (by omega)
        have dco2 : decide (2 * s.size < cv) = false := decide_eq_false (by omega)
        go_wp2_with fail
        refine (HAP.out _ (HS4.out.t b2 V (by simp))).mono ?_
        rintro e w5 ⟨rfl, hb⟩
        have HS5 := hid (HS4.out.on hb)
        clear HS4 hb HAP
        go_wp2_with fail
        refine (HCO.out _ (HS5.out.t b2 V (by simp))).mono ?_
        rintro e w6 ⟨rfl, hb⟩
        have HS6 := hid (HS5.out.on hb)
        clear HS5 hb HCO
        go_wp2_with fail
        refine (HGO.out _ (HS6.out.t b2 V (by simp))).mono ?_
        rintro e w7 ⟨rfl, hb⟩
        have HS7 := hid (HS6.out.on hb).bare
        clear HS6 hb HGO hcost
        by_cases hos : o = s
        · subst hos
          by_cases h4 : 4 ≤ o.size
          · have d4 : decide ((4 : Int) ≤ (o.size : Int)) = true := decide_eq_true (by omega)
            have hl1 : ((V.length : Int) != 1) = false := by rw [HSF.out rfl h4]; rfl
            by_cases hm : o.size % 4 = 0
            · have dm : ((o.size : Int) % 4 == 0) = true := beq_iff_eq.2 (by omega)
              clear hm h4
              go_wp2_with fail
              go_meet
              case rel => exact HS7.out
            · have dm : ((o.size : Int) % 4 == 0) = false := beq_false_of_ne (by omega)
              clear hm h4
              go_wp2_with fail
              go_meet
              case rel => exact HS7.out
          · have d4 : decide ((4 : Int) ≤ (o.size : Int)) = false := decide_eq_false (by omega)
            clear h4
            go_wp2_with fail
            go_meet
            case rel => exact HS7.out
        · have de : (o.toList == s.toList) = false := by
            cases e : (o.toList == s.toList)
            · rfl
            · exact absurd ((eqT_iff o s).1 e) hos
          clear hos
          go_wp2_with fail
          go_meet
          case rel => exact HS7.out
  case rest =>
    as_aux_lemma =>
      have HS := hid hcut
      clear hcut HS4 HTO HSM hVl hs ho hbk
      go_wp2_with fail
      refine (drawThen_any l2 c2 a2 _ HS.out.draw).mono ?_
      rintro e w1 ⟨q, p1, e1, x, p2, e2, y, rfl, hq, hx, hy, hb⟩
      have HS1 : Hid (S11 w [] [(p1, x), (p2, y)] l2 c2 a2 w1) := ((HS.out.on hb).addT hy.2.2).addT hx.2.2
      have HX := hid (fun v (h : S11 w [] [(p1, x), (p2, y)] l2 c2 a2 v) => pin_in hx v (h.t p1 x (by simp)))
      have HY := hid (fun v (h : S11 w [] [(p1, x), (p2, y)] l2 c2 a2 v) => pin_in hy v (h.t p2 y (by simp)))
      have HFX := hid (smp_fit hx.2.1)
      have HFY := hid (smp_fit hy.2.1)
      have HTI := hid (fun v (h : S11 w [] [(p1, x), (p2, y)] l2 c2 a2 v) => iThen_any q p1 p2 e1 e2 x y v (HX.out v h) (HY.out v h))
      have HTS := hid (fun v (h : S11 w [] [(p1, x), (p2, y)] l2 c2 a2 v) => sThen_any q p1 p2 e1 e2 x y v (by omega) (HX.out v h) (HY.out v h))
      have HT2 : Hid (thenOk q x y = true → Told2 q x y (thenV q x y)) := told2_of
      have HZM := hid (then_small q x y)
      have hZl : (thenV q x y).length ≤ 1048576 := thenV_len q x y
      clear hb HS hx hy HX HY
      generalize thenV q x y = Z at *
      generalize thenOk q x y = ok2 at *
      have hbk2 : (ok2 != ok2) = false := by cases ok2 <;> rfl
      go_wp2_with fail
      refine (HTI.out _ HS1.out).mono ?_
      rintro e w2 ⟨b5, d5, rfl, hx, hb⟩
      have HS1' := hid (HS1.out.on hb)
      have HI5 := hid hx.ts
      clear HS1 hb hx HTI
      go_wp2_with fail
      refine (HTS.out _ HS1'.out).mono ?_
      rintro e w3 ⟨b6, d6, rfl, hx, hb⟩
      have HS3 : Hid (S11 w [] [(b6, Z), (b5, Z), (p1, x), (p2, y)] l2 c2 a2 w3) := ((HS1'.out.on hb).addT ((HI5.out.below hb).mono hb.size)).addT hx.ts
      clear HS1' hb hx HTS HI5
      go_wp2_with fail
      refine (sameParts_same b5 b6 d5 d6 Z _ hZl (HS3.out.t b5 Z (by simp)) (HS3.out.t b6 Z (by simp))).mono ?_
      rintro e w4 ⟨rfl, hb⟩
      have HS4 := hid (HS3.out.on hb)
      clear HS3 hb
      go_upto_if 157 with fail
      go_cut [22, 23, 24, 25, 26, 27] (fun _ _ _ _ _ _ wd => S11 w [] [] l2 c2 a2 wd)
      case first =>
        as_aux_lemma =>
          cases ok2
          · go_wp2_with fail
            go_meet
            case rel => exact HS4.out.bare
          · have hT := HT2.out rfl
            have HFZ := hid (smp_fit HZM.out)
            have HA1 := hid (fun v (hv : Pts v.heap.size p1 x v) => iApply_any q p1 e1 x v HFX.out.1 HFX.out.2 hv)
            have HA2 := hid (fun v (hv : Pts v.heap.size p2 y v) => iApply_any (applyV q x) p2 e2 y v HFY.out.1 HFY.out.2 hv)
            have HA3 := hid (fun v (hv : Pts v.heap.size b5 Z v) => iApply_any q b5 d5 Z v HFZ.out.1 HFZ.out.2 hv)
            rw [hT.g1] at HA1
            rw [hT.g2] at HA2
            rw [hT.g3, hT.ap] at HA3
            clear hT HT2
            generalize applyV (applyV q x) y = Y1 at *
            generalize applyV q x = X1 at *
            go_wp2_with fail
            refine (HA1.out _ (HS4.out.t p1 x (by simp))).mono ?_
            rintro e w5 ⟨rfl, hb⟩
            have HS5 := hid (HS4.out.on hb)
            clear HS4 hb HA1
            go_wp2_with fail
            refine (HA2.out _ (HS5.out.t p2 y (by simp))).mono ?_
            rintro e w6 ⟨rfl, hb⟩
            have HS6 := hid (HS5.out.on hb)
            clear HS5 hb HA2
            go_wp2_with fail
            refine (HA3.out _ (HS6.out.t b5 Z (by simp))).mono ?_
            rintro e w7 ⟨rfl, hb⟩
            have HS7 := hid (HS6.out.on hb).bare
            clear HS6 hb HA3
            go_wp2_with fail
            go_meet
            case rel => exact HS7.out
      case rest =>
        as_aux_lemma =>
          have HS := hid hcut
          clear hcut HS4 HT2 HZM hZl hq hbk2 HFX HFY
          go_wp2_with fail
          refine (drawApply_any l2 c2 a2 _ HS.out.draw).mono ?_
          rintro e w1 ⟨t, p3, e3, z, rfl, ht, hz, hb⟩
          have HS1 : Hid (S11 w [] [(p3, z)] l2 c2 a2 w1) := (HS.out.on hb).addT hz.2.2
          have hzl := hz.1
          have HFZ := hid (smp_fit hz.2.1)
          have HAI := hid (fun v (hv : Pts v.heap.size p3 z v) => iApply_any t p3 e3 z v HFZ.out.1 HFZ.out.2 hv)
          have HAS := hid (fun v (hv : Pts v.heap.size p3 z v) => sApplyD_any t p3 e3 z v (by omega) (by omega) HFZ.out.1 HFZ.out.2 hv)
          have HGI := hid (fun v (hv : Pts v.heap.size p3 z v) => iGood_any t p3 e3 z v HFZ.out.1 HFZ.out.2 hv)
          have HGS := hid (fun v (hv : Pts v.heap.size p3 z v) => sGood_any t p3 e3 z v (by omega) (by omega) HFZ.out.1 HFZ.out.2 hv)
          clear hz hb HS hzl
          generalize applyV t z = av at *
          generalize goodD t z = gv at *
          go_wp2_with fail
          refine (HAI.out _ (HS1.out.t p3 z (by simp))).mono ?_
          rintro e w2 ⟨rfl, hb⟩
          have HS2 := hid (HS1.out.on hb)
          clear HS1 hb HAI
          go_wp2_with fail
          refine (HAS.out _ (HS2.out.t p3 z (by simp))).mono ?_
          rintro e w3 ⟨rfl, hb⟩
          have HS3 := hid (HS2.out.on hb)
          clear HS2 hb HAS
          go_wp2_with fail
          refine (drawCost_any l2 c2 a2 _ HS3.out.draw).mono ?_
          rintro e w4 ⟨p4, e4, u, rfl, hu, hb⟩
          have HS4 : Hid (S11 w [] [(p4, u), (p3, z)] l2 c2 a2 w4) := (HS3.out.on hb).addT hu.2.2
          have HCI := hid (fun v (hv : Pts v.heap.size p4 u v) => iCost_any p4 e4 u v (smp_tx hu.2.1) hv)
          have HCS := hid (fun v (hv : Pts v.heap.size p4 u v) => sCost_any p4 e4 u v (smp_tx hu.2.1) hv)
          clear hu hb HS3
          generalize costV u = cv at *
          generalize decide (u.length ≤ 60) = co at *
          go_wp2_with fail
          refine (HCI.out _ (HS4.out.t p4 u (by simp))).mono ?_
          rintro e w5 ⟨rfl, hb⟩
          have HS5 := hid (HS4.out.on hb)
          clear HS4 hb HCI
          go_wp2_with fail
          refine (HCS.out _ (HS5.out.t p4 u (by simp))).mono ?_
          rintro e w6 ⟨rfl, hb⟩
          have HS6 := hid (HS5.out.on hb)
          clear HS5 hb HCS
          go_wp2_with fail
          refine (HGI.out _ (HS6.out.t p3 z (by simp))).mono ?_
          rintro e w7 ⟨rfl, hb⟩
          have HS7 := hid (HS6.out.on hb)
          clear HS6 hb HGI
          go_wp2_with fail
          refine (HGS.out _ (HS7.out.t p3 z (by simp))).mono ?_
          rintro e w8 ⟨rfl, hb⟩
          have HS8 := hid (HS7.out.on hb)
          clear HS7 hb HGS
          go_wp2_with fail
          go_ret
          exact ⟨rfl, HS8.out.below⟩
set_option maxHeartbeats 400000 in
theorem delta_big (l1 c1 l2 c2 : Nat) (a1 a2 : Option Addr) (w : World) (h1 : l1 ≤ 4611686018427387903) (h2 : l2 ≤ 4611686018427387903) (h12 : ¬ l1 + l2 ≤ 1048576) :
    Calls Try.prog 3 #[.slice a1 l1 c1, .slice a2 l2 c2] w fun e w' => e = .returned (.bool true) ∧ Below w.heap.size w w' := by
  have hd : decide ((1048576 : Int) < (l1 : Int) + (l2 : Int)) = true := by simp; omega
  go_enter Try.func3, Try.ntmps3
  go_wp2_with fail
  go_ret
  exact ⟨rfl, Below.refl _ _⟩
end Go.Proofs.Ytfkcfachbfbmpaa
