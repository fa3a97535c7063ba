/- The law on sums of products and roots: its walk out of the contracts. -/
import Derived.Test.YtipeillhafcliaaJSm
import Derived.Deep.DeepCutAuto
namespace Go.Proofs.Ytipeillhafcliaa
set_option maxRecDepth 100000
open Go Go.ChangeShapes Go.WideShapes Go.ChangeAt Go.RowKit
theorem take4_good {l : List Int} (h : goodS l = true) : goodS (l.take 4) = true ∧ (l.take 4).length ≤ 4 := by
  have hs : (l.take 4).Sublist l := List.take_sublist _ _
  exact ⟨goodS_of (by rw [List.length_take]; omega) (fun x hx => goodS_in h x (hs.subset hx)) ((goodS_rising h).sublist hs), by rw [List.length_take]; omega⟩
set_option maxHeartbeats 4000000 in
theorem newton_small (l1 c1 l2 c2 : Nat) (a1 a2 : Option Addr) (w : World) (h12 : l1 + l2 ≤ 1048576) (hK1 : Code w.heap.size l1 c1 a1 w) (hK2 : Code w.heap.size l2 c2 a2 w) :
    Calls Try.prog 4 #[.slice a1 l1 c1, .slice a2 l2 c2] w fun e w' => e = .returned (.bool true) ∧ Below w.heap.size w w' := by
  have hd : decide ((1048576 : Int) < (l1 : Int) + (l2 : Int)) = false := by simp; omega
  have HK1 := hid hK1
  have HS : Hid (S8 w [] l2 c2 a2 w) := ⟨Below.refl _ _, hK2, (fun _ h => by cases h)⟩
  clear hK1 hK2
  go_enter Try.func4, Try.ntmps4
  go_wp2_with fail
  refine (drawPow_any l1 c1 a1 _ HK1.out).mono ?_
  rintro e w1 ⟨l, b, c, n6, rfl, hl, hlc, hx, hb⟩
  have HS1 : Hid (S8 w [(b, l)] l2 c2 a2 w1) := (HS.out.on hb).add hx
  clear HS HK1 hb hx
  go_wp2_with fail
  refine (igoodS_any b c l w1 (by omega) (HS1.out.i b l (by simp))).mono ?_
  rintro e w2 ⟨rfl, hw2⟩
  rw [hw2]
  clear hw2
  obtain ⟨g, hg⟩ : ∃ g, goodS l = g := ⟨_, rfl⟩
  rw [hg]
  have HG := hid hg
  clear hg
  go_upto_if 47 with fail
  go_cut [] (fun wd => S8 w [] l2 c2 a2 wd)
  case first =>
    as_aux_lemma =>
      cases g
      · go_wp2_with fail
        go_meet
        case rel => exact HS1.out.bare
      · obtain ⟨T, hT⟩ : ∃ T, l.take 4 = T := ⟨_, rfl⟩
        have h4 := take4_good HG.out
        rw [hT] at h4
        obtain ⟨hTg, hT4⟩ := h4
        have HTL : Hid (T.length = min 4 l.length) := by show _ = _; rw [← hT, List.length_take]
        have HIT : Hid (∀ v, Is v.heap.size b l v → Is v.heap.size b T v) := fun v hv => by rw [← hT]; exact is_take hv 4
        have HTl : Hid (l.length ≤ 4 → T = l) := fun h => by rw [← hT]; exact List.take_of_length_le h
        have hi := goodS_in hTg
        have hr := goodS_rising hTg
        have hpk : powOk T (T.length : Int) = true := powOk_yes hTg (uptoB_iff.2 (by omega))
        have eP : powV T (T.length : Int) = powL T T.length := by rw [powV_yes hpk, Int.toNat_natCast]
        have eS : symV T (T.length : Int) = symT T T.length := by rw [symV_yes hpk, Int.toNat_natCast]
        obtain ⟨eE1, eE2⟩ := elem_pow T hT4 hi
        obtain ⟨eR1, eR2⟩ := roots_sym T hT4 hi hr
        have HVP := hid (val_prod T hT4)
        have HSG := hid (sym_good T hT4 hi)
        clear hT hi hr
        obtain ⟨P, hP⟩ : ∃ P, powL T T.length = P := ⟨_, rfl⟩
        obtain ⟨S, hS⟩ : ∃ S, symT T T.length = S := ⟨_, rfl⟩
        have lP : P.length = T.length := by rw [← hP, powL_len]
        have lS : S.length = T.length := by rw [← hS, symT_len]
        have LP := hid lP
        have LS := hid lS
        have C1 : Hid (∀ v d, Is v.heap.size b T v → Calls Try.prog 7 #[.slice b T.length d, .int .i64 (T.length : Int)] v (JOut P true v)) := fun v d hv => by
          have := iPow_any b d T (T.length : Int) v (by omega) hv
          rwa [eP, hpk, hP] at this
        have C2 : Hid (∀ v q d, P.length ≤ d → Is v.heap.size q P v → Calls Try.prog 19 #[.slice q P.length d] v (JOut S true v)) := fun v q d hd hv => by
          have := iElem_any q d P v (by rw [lP]; omega) hd hv
          rwa [← hP, eE1, eE2, hS, hP] at this
        have C3 : Hid (∀ v d, Is v.heap.size b T v → Calls Try.prog 8 #[.slice b T.length d, .int .i64 (T.length : Int)] v (JOut S true v)) := fun v d hv => by
          have := iSums_any b d T (T.length : Int) v (by omega) hv
          rwa [eS, hpk, hS] at this
        have C4 : Hid (∀ v q d, Is v.heap.size q S v → Calls Try.prog 20 #[.slice q S.length d] v (JOut T true v)) := fun v q d hv => by
          have := iRoot_any q d S v (by rw [lS]; omega) hv
          rwa [← hS, eR1, eR2, hS] at this
        have C5 : Hid (∀ v q d (x : Int), 0 ≤ x → x ≤ 60 → Is v.heap.size q S v → Calls Try.prog 21 #[.slice q S.length d, .int .i64 x] v fun e w' => e = .returned (.tuple #[.int .i64 (prodD x T), .bool true]) ∧ w' = v) := fun v q d x x0 x1 hv => by
          have := iValueAt_any q d S x v (by rw [lS]; omega) hv
          have ho : vaOk S x = true := by unfold vaOk; rw [← hS, HSG.out, inX_iff.2 ⟨x0, x1⟩]; rfl
          rwa [vaV_yes ho, ho, ← hS, HVP.out x, hS] at this
        clear hpk eP eS eE1 eE2 eR1 eR2 HVP HSG hP hS lP lS hTg
        go_upto_if 51 with fail
        go_cut [7] (fun s wc => s = .slice b T.length c ∧ wc = w1)
        case first =>
          as_aux_lemma =>
            by_cases h5 : 4 < l.length
            · have hd5 : decide ((4 : Int) < (l.length : Int)) = true := decide_eq_true (by omega)
              have e4 : T.length = 4 := by have := HTL.out; omega
              have i1 : 4 ≤ c := by omega
              have i2 : (4 : Int) ≤ (c : Int) := by omega
              obtain ⟨b1, o1, e5, _, _⟩ := (HS1.out.i b l (by simp)).cell (by omega)
              subst e5
              have HE4 := hid e4
              clear e4 C1 C2 C3 C4 C5
              go_wp2_with fail
              go_meet
              case rel => exact ⟨by rw [HE4.out], rfl⟩
            · have hd5 : decide ((4 : Int) < (l.length : Int)) = false := decide_eq_false (by omega)
              have HE4 := hid (HTl.out (by omega))
              clear C1 C2 C3 C4 C5
              go_wp2_with fail
              go_meet
              case rel => exact ⟨by rw [HE4.out], rfl⟩
        case rest =>
          as_aux_lemma =>
            obtain ⟨rfl, hw⟩ := hcut
            subst hw
            have HS2 : Hid (S8 w [(b, T)] l2 c2 a2 wc) := HS1.out.bare.add (HIT.out _ (HS1.out.i b l (by simp)))
            clear HS1 HIT HTl HTL
            go_wp2_with fail
            refine (C1.out _ c (HS2.out.i b T (by simp))).mono ?_
            rintro e w3 ⟨b3, d3, rfl, hx3, hb3, hd3⟩
            have HS3 : Hid (S8 w [(b3, P), (b, T)] l2 c2 a2 w3) := (HS2.out.on hb3).add hx3.is
            clear HS2 hb3 hx3 C1
            go_wp2_with fail
            refine (C2.out _ b3 d3 hd3 (HS3.out.i b3 P (by simp))).mono ?_
            rintro e w4 ⟨b4, d4, rfl, hx4, hb4, hd4⟩
            have HS4 : Hid (S8 w [(b4, S), (b3, P), (b, T)] l2 c2 a2 w4) := (HS3.out.on hb4).add hx4.is
            clear HS3 hb4 hx4 C2
            go_wp2_with fail
            refine (C3.out _ c (HS4.out.i b T (by simp))).mono ?_
            rintro e w5 ⟨b5, d5, rfl, hx5, hb5, hd5⟩
            have HS5 : Hid (S8 w [(b5, S), (b4, S), (b3, P), (b, T)] l2 c2 a2 w5) := (HS4.out.on hb5).add hx5.is
            clear HS4 hb5 hx5 C3
            go_wp2_with fail
            refine (C4.out _ b4 d4 (HS5.out.i b4 S (by simp))).mono ?_
            rintro e w6 ⟨b6, d6, rfl, hx6, hb6, hd6⟩
            have HS6 : Hid (S8 w [(b6, T), (b5, S), (b4, S), (b3, P), (b, T)] l2 c2 a2 w6) := (HS5.out.on hb6).add hx6.is
            clear HS5 hb6 hx6 C4
            go_wp2_with fail
            refine (numberOf_any _ _ _ _ HS6.out.draw).mono ?_
            rintro e w9 ⟨n, rfl, n0, n1, hw9⟩
            rw [hw9]
            clear hw9
            obtain ⟨x, hxx⟩ : ∃ x, n % 61 = x := ⟨_, rfl⟩
            have x0 : 0 ≤ x := by omega
            have x1 : x ≤ 60 := by omega
            have hxt : n.tmod 61 = x := by rw [Int.tmod_eq_emod_of_nonneg n0]; exact hxx
            have H5 := hid (C5.out w6 b4 d4 x x0 x1 (HS6.out.i b4 S (by simp)))
            have HPZ := hid (prodD_zero x T)
            have HP1 : Hid (T.length = 0 → prodD x T = 1) := fun h => by rw [List.eq_nil_of_length_eq_zero h]; rfl
            generalize prodD x T = v at *
            clear C5
            go_wp2_with fail
            refine H5.out.mono ?_
            rintro e w9 ⟨rfl, hw9⟩
            rw [hw9]
            clear hw9 H5
            go_wp2_with fail
            refine (sameInts_same b4 b5 d4 d5 S _ (by have := LS.out; omega) (HS6.out.i b4 S (by simp)) (HS6.out.i b5 S (by simp))).mono ?_
            rintro e w7 ⟨rfl, hb7⟩
            have HS7 := hid (HS6.out.on hb7)
            clear HS6 hb7
            go_wp2_with fail
            refine (sameInts_same b6 b d6 c T _ (by omega) (HS7.out.i b6 T (by simp)) (HS7.out.i b T (by simp))).mono ?_
            rintro e w8 ⟨rfl, hb8⟩
            have HS8 := hid (HS7.out.on hb8)
            clear HS7 hb8
            go_wp2_with fail
            refine (has_any b c T x w8 (by omega) (HS8.out.i b T (by simp))).mono ?_
            rintro e w9 ⟨rfl, hw9⟩
            rw [hw9]
            clear hw9
            have hvd : (v == 0) = decide (x ∈ T) := by
              have h := HPZ.out
              by_cases hm : x ∈ T
              · rw [decide_eq_true hm, h.2 hm]; rfl
              · rw [decide_eq_false hm]
                have : v ≠ 0 := fun e => hm (h.1 e)
                simpa using this
            generalize decide (x ∈ T) = dx at *
            cases dx
            · by_cases hT0 : T.length = 0
              · have hz0 : ((T.length : Int) == 0) = true := by rw [hT0]; rfl
                have hv1 : (v != 1) = false := by rw [HP1.out hT0]; rfl
                clear hT0
                go_wp2_with fail
                go_meet
                case rel => exact HS8.out.bare
              · have hz0 : ((T.length : Int) == 0) = false := by simp; exact fun h => hT0 (by rw [h]; rfl)
                clear hT0
                go_wp2_with fail
                go_meet
                case rel => exact HS8.out.bare
            · by_cases hT0 : T.length = 0
              · have hz0 : ((T.length : Int) == 0) = true := by rw [hT0]; rfl
                have hv1 : (v != 1) = false := by rw [HP1.out hT0]; rfl
                clear hT0
                go_wp2_with fail
                go_meet
                case rel => exact HS8.out.bare
              · have hz0 : ((T.length : Int) == 0) = false := by simp; exact fun h => hT0 (by rw [h]; rfl)
                clear hT0
                go_wp2_with fail
                go_meet
                case rel => exact HS8.out.bare
  case rest =>
    as_aux_lemma =>
      have HS2 := hid hcut
      clear HS1 HG hcut
      go_wp2_with fail
      refine (drawElem_any l2 c2 a2 _ HS2.out.draw).mono ?_
      rintro e w3 ⟨p, b3, d3, rfl, hl3, hd3, hx3, hb3⟩
      have HS3 : Hid (S8 w [(b3, p)] l2 c2 a2 w3) := (HS2.out.on hb3).add hx3
      clear HS2 hb3 hx3
      have CI := hid (iElem_any b3 d3 p w3 (by omega) hd3 (HS3.out.i b3 p (by simp)))
      have CS : Hid (∀ v, Is v.heap.size b3 p v → Calls Try.prog 24 #[.slice b3 p.length d3] v (JOut (elemV p) (elemOk p) v)) := fun v hv => sElem_any b3 d3 p v (by omega) hv
      have LE := hid (elemV_len p)
      generalize elemV p = E at *
      generalize elemOk p = oe at *
      go_wp2_with fail
      refine CI.out.mono ?_
      rintro e w4 ⟨b4, d4, rfl, hx4, hb4, _⟩
      have HS4 : Hid (S8 w [(b4, E), (b3, p)] l2 c2 a2 w4) := (HS3.out.on hb4).add hx4.is
      clear HS3 hb4 hx4 CI
      go_wp2_with fail
      refine (CS.out _ (HS4.out.i b3 p (by simp))).mono ?_
      rintro e w5 ⟨b5, d5, rfl, hx5, hb5, _⟩
      have HS5 : Hid (S8 w [(b5, E), (b4, E), (b3, p)] l2 c2 a2 w5) := (HS4.out.on hb5).add hx5.is
      clear HS4 hb5 hx5 CS
      go_wp2_with fail
      refine (drawRoots_any l2 c2 a2 _ HS5.out.draw).mono ?_
      rintro e w6 ⟨q, b6, d6, rfl, hl6, hd6, hx6, hb6⟩
      have HS6 : Hid (S8 w [(b6, q), (b5, E), (b4, E), (b3, p)] l2 c2 a2 w6) := (HS5.out.on hb6).add hx6
      clear HS5 hb6 hx6
      have CI := hid (iRoot_any b6 d6 q w6 (by omega) (HS6.out.i b6 q (by simp)))
      have CS : Hid (∀ v, Is v.heap.size b6 q v → Calls Try.prog 26 #[.slice b6 q.length d6] v (JOut (rootV q) (rootOk q) v)) := fun v hv => sRoot_any b6 d6 q v (by omega) hv
      have LR := hid (rootV_len q)
      generalize rootV q = R at *
      generalize rootOk q = orr at *
      go_wp2_with fail
      refine CI.out.mono ?_
      rintro e w7 ⟨b7, d7, rfl, hx7, hb7, _⟩
      have HS7 : Hid (S8 w [(b7, R), (b6, q), (b5, E), (b4, E), (b3, p)] l2 c2 a2 w7) := (HS6.out.on hb7).add hx7.is
      clear HS6 hb7 hx7 CI
      go_wp2_with fail
      refine (CS.out _ (HS7.out.i b6 q (by simp))).mono ?_
      rintro e w8 ⟨b8, d8, rfl, hx8, hb8, _⟩
      have HS8 : Hid (S8 w [(b8, R), (b7, R), (b6, q), (b5, E), (b4, E), (b3, p)] l2 c2 a2 w8) := (HS7.out.on hb8).add hx8.is
      clear HS7 hb8 hx8 CS
      go_wp2_with fail
      refine (drawValue_any l2 c2 a2 _ HS8.out.draw).mono ?_
      rintro e w9 ⟨u, b9, d9, x, rfl, hl9, hd9, hx9, hb9⟩
      have HS9 : Hid (S8 w [(b9, u), (b8, R), (b7, R), (b6, q), (b5, E), (b4, E), (b3, p)] l2 c2 a2 w9) := (HS8.out.on hb9).add hx9
      clear HS8 hb9 hx9
      have CI := hid (iValueAt_any b9 d9 u x w9 (by omega) (HS9.out.i b9 u (by simp)))
      have CS := hid (sValueAt_any b9 d9 u x w9 (by omega) (HS9.out.i b9 u (by simp)))
      generalize vaV u x = vv at *
      generalize vaOk u x = ov at *
      go_wp2_with fail
      refine CI.out.mono ?_
      rintro e w0 ⟨rfl, hw0⟩
      rw [hw0]
      clear hw0 CI
      go_wp2_with fail
      refine CS.out.mono ?_
      rintro e w0 ⟨rfl, hw0⟩
      rw [hw0]
      clear hw0 CS
      have q1 : (oe == oe) = true := by cases oe <;> rfl
      have q2 : (orr == orr) = true := by cases orr <;> rfl
      have q3 : (ov == ov) = true := by cases ov <;> rfl
      go_wp2_with fail
      refine (sameInts_same b4 b5 d4 d5 E _ (by have := LE.out; omega) (HS9.out.i b4 E (by simp)) (HS9.out.i b5 E (by simp))).mono ?_
      rintro e w10 ⟨rfl, hb10⟩
      have HS10 := hid (HS9.out.on hb10)
      clear HS9 hb10
      go_wp2_with fail
      refine (sameInts_same b7 b8 d7 d8 R _ (by have := LR.out; omega) (HS10.out.i b7 R (by simp)) (HS10.out.i b8 R (by simp))).mono ?_
      rintro e w11 ⟨rfl, hb11⟩
      have HS11 := hid (HS10.out.on hb11).below
      clear HS10 hb11
      go_wp2
      go_ret
      exact ⟨rfl, HS11.out⟩
set_option maxHeartbeats 400000 in
theorem newton_big (l1 c1 l2 c2 : Nat) (a1 a2 : Option Addr) (w : World) (h1 : l1 ≤ 4611686018427387903) (h2 : l2 ≤ 4611686018427387903) (h12 : ¬ l1 + l2 ≤ 1048576) :
    Calls Try.prog 4 #[.slice a1 l1 c1, .slice a2 l2 c2] w fun e w' => e = .returned (.bool true) ∧ Below w.heap.size w w' := by
  have hd : decide ((1048576 : Int) < (l1 : Int) + (l2 : Int)) = true := by simp; omega
  go_enter Try.func4, Try.ntmps4
  go_wp2_with fail
  go_ret
  exact ⟨rfl, Below.refl _ _⟩
end Go.Proofs.Ytipeillhafcliaa
