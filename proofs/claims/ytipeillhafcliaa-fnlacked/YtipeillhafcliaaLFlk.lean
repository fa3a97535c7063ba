/- The law on what is lacked: its walk out of the contracts. -/
import Derived.Test.YtipeillhafcliaaJSm
import Derived.Deep.DeepCutAuto
namespace Go.Proofs.Ytipeillhafcliaa
set_option maxRecDepth 100000
open Go Go.ChangeShapes Go.WideShapes Go.ChangeAt Go.RowKit
/-- two rows in blocks apart -/
def ApartJ (u v : Value) : Prop := ∀ k j, u.ownBlock = some k → v.ownBlock = some j → k ≠ j
theorem ApartJ.symm {u v : Value} (h : ApartJ u v) : ApartJ v u := fun k j hk hj e => h j k hj hk e.symm
theorem AL.other {lo : Nat} {u v : Value} {l : List Int} {w w' : World} {x : Int} (h : AL lo v l w) (ha : ApartJ u v) (g : (w.alloc (.cells #[.int .i64 x] 3)).grownBy w' u.ownBlock) : AL lo v l w' :=
  rw_keep h fun k hk => by
    have hl := (World.ownsRow.lt h k hk).2
    rw [g.block k (by rw [heap_size]; omega) (fun e => ha k k e.symm hk rfl)]
    exact (boxB w _).block k hl
theorem apart_push {lo : Nat} {u u' v : Value} {l : List Int} {w : World} (ha : ApartJ u v) (h : AL lo v l w) (hv : u'.ownBlock = u.ownBlock ∨ u'.ownBlock = some (w.heap.size + 1)) : ApartJ u' v := fun k j hk hj e => by
  rcases hv with hv | hv
  · exact ha k j (by rw [← hv]; exact hk) hj e
  · have hl := (World.ownsRow.lt h j hj).2
    rw [hv] at hk
    injection hk with hk
    omega
/-- what is lacked and what is left, of a set's numbers turned round by m -/
theorem part_told (l : List Int) (hg : goodS l = true) (m u : Nat) (hu : u ≤ l.length) (h4 : u ≤ 4) :
    (sel l (turn l.length m u) l.length).length = u ∧ lackOk (sel l (fun i => !turn l.length m u i) l.length) (powL l u) = true ∧ lackV (sel l (fun i => !turn l.length m u i) l.length) (powL l u) = sel l (turn l.length m u) l.length := by
  have hp := sel_perm l (turn l.length m u) l.length (Nat.le_refl _)
  have h1 := sel_sub l (turn l.length m u) l.length (Nat.le_refl _)
  have h2 := sel_sub l (fun i => !turn l.length m u i) l.length (Nat.le_refl _)
  rw [List.take_length] at hp h1 h2
  have hl : (sel l (turn l.length m u) l.length).length = u := by
    rw [sel_len]
    rcases Nat.eq_zero_or_pos l.length with h0 | h0
    · rw [h0] at hu ⊢
      obtain rfl : u = 0 := by omega
      rfl
    · exact cnt_turn l.length m u hu h0
  have := lack_told l _ _ hg h2 hp h1 (by omega)
  rw [hl] at this
  exact ⟨hl, this⟩
set_option maxHeartbeats 6000000 in
theorem lacked_small (l1 c1 l2 c2 : Nat) (a1 a2 : Option Addr) (w : World) (h12 : l1 + l2 ≤ 1048576) (hK1 : Code w.heap.size l1 c1 a1 w) (hK2 : Code w.heap.size l2 c2 a2 w) :
    Calls Try.prog 3 #[.slice a1 l1 c1, .slice a2 l2 c2] w fun e w' => e = .returned (.bool true) ∧ Below w.heap.size w w' := by
  have hd : decide ((1048576 : Int) < (l1 : Int) + (l2 : Int)) = false := by simp; omega
  have HK1 := hid hK1
  have HS : Hid (S8 w [] l2 c2 a2 w) := ⟨Below.refl _ _, hK2, (fun _ h => by cases h)⟩
  have HNU := hid (number_at a2 l2 c2 w hK2)
  obtain ⟨nb0, nb1⟩ := numN_bnd w a2 l2
  obtain ⟨m, hm⟩ : ∃ m : Nat, numN w a2 l2 = (m : Int) := ⟨(numN w a2 l2).toNat, by omega⟩
  rw [hm] at HNU nb1
  clear hK1 hK2 nb0 hm
  go_enter Try.func3, Try.ntmps3
  go_wp2_with fail
  refine (drawPow_any l1 c1 a1 _ HK1.out).mono ?_
  rintro e w1 ⟨l, b, c, n6, rfl, hl, hlc, hx, hb⟩
  have HS1 : Hid (S8 w [(b, l)] l2 c2 a2 w1) := (HS.out.on hb).add hx
  clear HS HK1 hb hx
  go_wp2_with fail
  refine (HNU.out _ HS1.out.below).mono ?_
  rintro e w9 ⟨rfl, hw9⟩
  rw [hw9]
  clear hw9
  obtain ⟨u, hu⟩ : ∃ u : Nat, m % 5 = u := ⟨_, rfl⟩
  have hu4 : u ≤ 4 := by omega
  have hut : (m : Int) % 5 = (u : Int) := by omega
  clear hu
  have C1 : Hid (∀ v, Is v.heap.size b l v → Calls Try.prog 7 #[.slice b l.length c, .int .i64 (u : Int)] v (JOut (powV l u) (powOk l u) v)) := fun v hv => iPow_any b c l u v (by omega) hv
  have C2 : Hid (∀ v, Is v.heap.size b l v → Calls Try.prog 8 #[.slice b l.length c, .int .i64 (u : Int)] v (JOut (symV l u) (powOk l u) v)) := fun v hv => iSums_any b c l u v (by omega) hv
  have C3 : Hid (∀ v, Is v.heap.size b l v → Calls Try.prog 9 #[.slice b l.length c, .int .i64 (u : Int)] v (JOut (powV l u) (powOk l u) v)) := fun v hv => sPow_any b c l u v (by omega) hv
  have C4 : Hid (∀ v, Is v.heap.size b l v → Calls Try.prog 10 #[.slice b l.length c, .int .i64 (u : Int)] v (JOut (symV l u) (powOk l u) v)) := fun v hv => sSums_any b c l u v (by omega) hv
  have HGO : Hid (powOk l (u : Int) = goodS l) := by
    show powOk l (u : Int) = goodS l
    unfold powOk
    rw [uptoB_iff.2 (by omega), Bool.and_true]
  have LP := hid (powV_len l (u : Int))
  have LS := hid (symV_len l (u : Int))
  have HPV : Hid (goodS l = true → powV l (u : Int) = powL l u) := fun h => by rw [powV_yes (HGO.out.trans h), Int.toNat_natCast]
  rw [HGO.out] at C1 C2 C3 C4
  obtain ⟨P, hP⟩ : ∃ P, powV l (u : Int) = P := ⟨_, rfl⟩
  obtain ⟨S, hS⟩ : ∃ S, symV l (u : Int) = S := ⟨_, rfl⟩
  obtain ⟨g, hg⟩ : ∃ g, goodS l = g := ⟨_, rfl⟩
  have HGS := hid hg
  rw [hP] at C1 C3 LP HPV
  rw [hS] at C2 C4 LS
  rw [hg] at C1 C2 C3 C4 HPV
  clear hP hS hg HGO
  go_wp2_with fail
  refine (C1.out _ (HS1.out.i b l (by simp))).mono ?_
  rintro e w3 ⟨b3, d3, rfl, hx3, hb3, hd3⟩
  have HS3 : Hid (S8 w [(b3, P), (b, l)] l2 c2 a2 w3) := (HS1.out.on hb3).add hx3.is
  clear HS1 hb3 hx3 C1
  go_wp2_with fail
  refine (C2.out _ (HS3.out.i b l (by simp))).mono ?_
  rintro e w4 ⟨b4, d4, rfl, hx4, hb4, _⟩
  have HS4 : Hid (S8 w [(b4, S), (b3, P), (b, l)] l2 c2 a2 w4) := (HS3.out.on hb4).add hx4.is
  clear HS3 hb4 hx4 C2
  go_wp2_with fail
  refine (C3.out _ (HS4.out.i b l (by simp))).mono ?_
  rintro e w5 ⟨b5, d5, rfl, hx5, hb5, _⟩
  have HS5 : Hid (S8 w [(b5, P), (b4, S), (b3, P), (b, l)] l2 c2 a2 w5) := (HS4.out.on hb5).add hx5.is
  clear HS4 hb5 hx5 C3
  go_wp2_with fail
  refine (C4.out _ (HS5.out.i b l (by simp))).mono ?_
  rintro e w6 ⟨b6, d6, rfl, hx6, hb6, _⟩
  have HS6 : Hid (S8 w [(b6, S), (b5, P), (b4, S), (b3, P), (b, l)] l2 c2 a2 w6) := (HS5.out.on hb6).add hx6.is
  clear HS5 hb6 hx6 C4
  have q1 : (g != g) = false := by cases g <;> rfl
  go_wp2_with fail
  refine (sameInts_same b3 b5 d3 d5 P _ (by have := LP.out; omega) (HS6.out.i b3 P (by simp)) (HS6.out.i b5 P (by simp))).mono ?_
  rintro e w7 ⟨rfl, hb7⟩
  have HS7 := hid (HS6.out.on hb7)
  clear HS6 hb7
  go_wp2_with fail
  refine (sameInts_same b4 b6 d4 d6 S _ (by have := LS.out; omega) (HS7.out.i b4 S (by simp)) (HS7.out.i b6 S (by simp))).mono ?_
  rintro e w8 ⟨rfl, hb8⟩
  have HS8 := hid (HS7.out.on hb8)
  have HIG := hid (igoodS_any b c l w8 (by omega) (HS8.out.i b l (by simp)))
  rw [HGS.out] at HIG
  clear HS7 hb8
  go_wp2_with fail
  refine HIG.out.mono ?_
  rintro e w9 ⟨rfl, hw9⟩
  rw [hw9]
  clear hw9 HIG
  go_upto_region 11 with fail
  go_cut [104] (fun s wc => s = .bool (decide (g = true ∧ u ≤ l.length)) ∧ wc = w8)
  case first =>
    as_aux_lemma =>
      cases g
      · go_wp2_with fail
        go_meet
        case rel => exact ⟨by simp, rfl⟩
      · by_cases h0 : u ≤ l.length
        · have hd0 : decide ((u : Int) ≤ (l.length : Int)) = true := decide_eq_true (by omega)
          go_wp2_with fail
          go_meet
          case rel => exact ⟨by simp; omega, rfl⟩
        · have hd0 : decide ((u : Int) ≤ (l.length : Int)) = false := decide_eq_false (by omega)
          go_wp2_with fail
          go_meet
          case rel => exact ⟨by simp; omega, rfl⟩
  case rest =>
    as_aux_lemma =>
      obtain ⟨rfl, hw8⟩ := hcut
      subst hw8
      go_upto_if 104 with fail
      go_cut [16, 17, 18, 19, 20, 21] (fun _ _ _ _ _ _ wd => S8 w [] l2 c2 a2 wd)
      case first =>
        as_aux_lemma =>
          by_cases h : g = true ∧ u ≤ l.length
          case neg =>
            have hdc : decide (g = true ∧ u ≤ l.length) = false := decide_eq_false h
            rw [hdc]
            clear hdc h
            go_wp2_with fail
            go_meet
            case rel => exact HS8.out.bare
          have hdc : decide (g = true ∧ u ≤ l.length) = true := decide_eq_true h
          rw [hdc]
          clear hdc
          obtain ⟨rfl, hul⟩ := h
          obtain ⟨tl, tok, tv⟩ := part_told l HGS.out m u hul hu4
          rw [← HPV.out rfl] at tok tv
          have HTL := hid tl
          have HTO := hid tok
          have HTV := hid tv
          clear tl tok tv HPV
          obtain ⟨P1, hP1⟩ : ∃ Q, turn l.length m u = Q := ⟨_, rfl⟩
          rw [hP1] at HTL HTO HTV
          have HQ : Hid (∀ k, P1 k = decide ((k + m) % l.length < u)) := fun k => by rw [← hP1]; rfl
          have HLN : Hid (∀ Q k, k ≤ l.length → (sel l Q k).length ≤ 40) := fun Q k hk => by
            have := (sel_sub l Q k hk).length_le
            rw [List.length_take] at this
            omega
          clear hP1
          go_wp2_with fail
          go_loopw [16, 17, 107] (fun o t i wr => ∃ (k : Nat) (o1 t1 : Value), k ≤ l.length ∧ i = .int .i64 k ∧ o = o1 ∧ t = t1 ∧ AL wc.heap.size o1 (sel l (fun i => !P1 i) k) wr ∧ AL wc.heap.size t1 (sel l P1 k) wr ∧ ApartJ o1 t1 ∧ Below wc.heap.size wc wr) (fun _ _ i _ => l.length - (intOf i).toNat)
          case atStart => exact ⟨0, _, _, Nat.zero_le _, rfl, rfl, rfl, AL.nil _ _, AL.nil _ _, (fun k j hk _ => by simp [Value.ownBlock] at hk), Below.refl _ _⟩
          case round =>
            obtain ⟨k, _, _, hk, rfl, rfl, rfl, hown, hlk, hap, hbr⟩ := hrel
            have HOWN := hid hown
            have HLK := hid hlk
            have HAPR := hid hap
            have HBR := hid hbr
            have hszr := hbr.size
            have HSR := hid (HS8.out.on hbr)
            clear hown hlk hap hbr
            by_cases hlt : k < l.length
            · obtain ⟨b1, off, e6, hb1, hc⟩ := (HSR.out.i b l (by simp)).cell (by omega)
              subst e6
              have x0 := hc k hlt
              have hn0 : (l.length : Int) ≠ 0 := by omega
              have hmod : ((k : Int) + (m : Int)) % (l.length : Int) = (((k + m) % l.length : Nat) : Int) := by first | rw [Int.natCast_mod, Int.natCast_add] | rw [Int.natCast_emod, Int.natCast_add] | (push_cast; rfl)
              have ha40 := HLN.out (fun i => !P1 i) k hk
              have hb40 := HLN.out P1 k hk
              clear hc
              have hq := HQ.out k
              by_cases hin : (k + m) % l.length < u
              · have hd : decide (((k : Int) + (m : Int)) % (l.length : Int) < (u : Int)) = true := by rw [hmod]; exact decide_eq_true (by omega)
                rw [decide_eq_true hin] at hq
                obtain ⟨v', w', r1, o1, g1, hz1, gb1, hv1⟩ := HLK.out.push hszr l[k] (by omega)
                rw [← sel_yes hq hlt] at o1
                have HO := hid o1
                have ho2 := HOWN.out.other HAPR.out.symm gb1
                rw [← sel_no (P := fun i => !P1 i) (by simp [hq])] at ho2
                have HO2 := hid ho2
                have HAP := hid (apart_push HAPR.out.symm HOWN.out hv1).symm
                have HB' := hid (HBR.out.trans g1)
                clear o1 ho2 g1 hz1 gb1 hv1 HOWN HLK HAPR hmod hin hq ha40 hb40
                generalize l[k] = x at *
                go_wp2_with fail
                refine (HNU.out _ HSR.out.below).mono ?_
                rintro e w9 ⟨rfl, hw9⟩
                rw [hw9]
                clear hw9
                go_wp2_with (at_builtin; refine wpList_append_run rfl (.tmp 121) (.tmp 123) 23 rfl _ _ rfl rfl _ _ r1 ?_)
                go_roundw
                case rel => exact ⟨k + 1, _, _, by omega, by go_num, rfl, rfl, HO2.out, HO.out, HAP.out, HB'.out⟩
                case measure => simp [intOf]; omega
              · have hd : decide (((k : Int) + (m : Int)) % (l.length : Int) < (u : Int)) = false := by rw [hmod]; exact decide_eq_false (by omega)
                rw [decide_eq_false hin] at hq
                obtain ⟨v', w', r1, o1, g1, hz1, gb1, hv1⟩ := HOWN.out.push hszr l[k] (by omega)
                rw [← sel_yes (P := fun i => !P1 i) (by simp [hq]) hlt] at o1
                have HO := hid o1
                have ho2 := HLK.out.other HAPR.out gb1
                rw [← sel_no hq] at ho2
                have HO2 := hid ho2
                have HAP := hid (apart_push HAPR.out HLK.out hv1)
                have HB' := hid (HBR.out.trans g1)
                clear o1 ho2 g1 hz1 gb1 hv1 HOWN HLK HAPR hmod hin hq ha40 hb40
                generalize l[k] = x at *
                go_wp2_with fail
                refine (HNU.out _ HSR.out.below).mono ?_
                rintro e w9 ⟨rfl, hw9⟩
                rw [hw9]
                clear hw9
                go_wp2_with (at_builtin; refine wpList_append_run rfl (.tmp 125) (.tmp 127) 23 rfl _ _ rfl rfl _ _ r1 ?_)
                go_roundw
                case rel => exact ⟨k + 1, _, _, by omega, by go_num, rfl, rfl, HO.out, HO2.out, HAP.out, HB'.out⟩
                case measure => simp [intOf]; omega
            · obtain rfl : k = l.length := by omega
              obtain ⟨bo, co, eo, ho, hco⟩ := HOWN.out.own
              subst eo
              obtain ⟨bt, ct, et, ht, hct⟩ := HLK.out.own
              subst et
              have lo40 := HLN.out (fun i => !P1 i) l.length (Nat.le_refl _)
              have hS9 : S8 w [(bt, sel l P1 l.length), (bo, sel l (fun i => !P1 i) l.length), (b6, S), (b5, P), (b4, S), (b3, P), (b, l)] l2 c2 a2 wr := (HSR.out.add ho.is).add ht.is
              have HS9 := hid hS9
              have HLB := hid (iLack_any bo b3 co d3 (sel l (fun i => !P1 i) l.length) P wr (by omega) (by have := LP.out; omega) ho.is (hS9.i b3 P (by simp)))
              rw [HTO.out, HTV.out] at HLB
              have hu2 := HTL.out
              clear hS9 ho ht HOWN HLK HAPR HBR HSR HLN
              generalize sel l P1 l.length = T at *
              generalize sel l (fun i => !P1 i) l.length = O at *
              have HU2 := hid hu2
              clear hu2
              go_wp2_with fail
              refine HLB.out.mono ?_
              rintro e w10 ⟨b10, d10, rfl, hx10, hb10, _⟩
              have HS10 : Hid (S8 w [(b10, T), (bt, T), (bo, O), (b6, S), (b5, P), (b4, S), (b3, P), (b, l)] l2 c2 a2 w10) := (HS9.out.on hb10).add hx10.is
              clear HS9 hb10 hx10 HLB
              go_wp2_with fail
              refine (sameInts_same b10 bt d10 ct T _ (by have := HU2.out; omega) (HS10.out.i b10 T (by simp)) (HS10.out.i bt T (by simp))).mono ?_
              rintro e w11 ⟨rfl, hb11⟩
              have HS11 := hid (HS10.out.on hb11).bare
              clear HS10 hb11
              go_wp2_with fail
              go_meet
              case rel => exact HS11.out
      case rest =>
        as_aux_lemma =>
          have HS2 := hid hcut
          clear HS8 hcut
          go_wp2_with fail
          refine (drawLack_any l2 c2 a2 _ HS2.out.draw).mono ?_
          rintro e w13 ⟨p, q, b13, d13, b14, d14, rfl, hl13, hl14, hx13, hx14, hb13⟩
          have HS3 : Hid (S8 w [(b14, q), (b13, p)] l2 c2 a2 w13) := ((HS2.out.on hb13).add hx13).add hx14
          clear HS2 hb13 hx13 hx14
          have CI := hid (iLack_any b13 b14 d13 d14 p q w13 (by omega) (by omega) (HS3.out.i b13 p (by simp)) (HS3.out.i b14 q (by simp)))
          have CS : Hid (∀ v, Is v.heap.size b13 p v → Is v.heap.size b14 q v → Calls Try.prog 15 #[.slice b13 p.length d13, .slice b14 q.length d14] v (JOut (lackV p q) (lackOk p q) v)) := fun v hv hv2 => sLack_any b13 b14 d13 d14 p q v (by omega) (by omega) hv hv2
          have LE := hid (lackV_len p q)
          generalize lackV p q = E at *
          generalize lackOk p q = oe at *
          go_wp2_with fail
          refine CI.out.mono ?_
          rintro e w15 ⟨b15, d15, rfl, hx15, hb15, _⟩
          have HS4 : Hid (S8 w [(b15, E), (b14, q), (b13, p)] l2 c2 a2 w15) := (HS3.out.on hb15).add hx15.is
          clear HS3 hb15 hx15 CI
          go_wp2_with fail
          refine (CS.out _ (HS4.out.i b13 p (by simp)) (HS4.out.i b14 q (by simp))).mono ?_
          rintro e w16 ⟨b16, d16, rfl, hx16, hb16, _⟩
          have HS5 : Hid (S8 w [(b16, E), (b15, E), (b14, q), (b13, p)] l2 c2 a2 w16) := (HS4.out.on hb16).add hx16.is
          clear HS4 hb16 hx16 CS
          have q2 : (oe != oe) = false := by cases oe <;> rfl
          go_wp2_with fail
          refine (sameInts_same b15 b16 d15 d16 E _ (by have := LE.out; omega) (HS5.out.i b15 E (by simp)) (HS5.out.i b16 E (by simp))).mono ?_
          rintro e w17 ⟨rfl, hb17⟩
          have HS6 := hid (HS5.out.on hb17).bare
          clear HS5 hb17
          go_wp2_with fail
          refine (drawLess_any l2 c2 a2 _ HS6.out.draw).mono ?_
          rintro e w18 ⟨p', q', b18, d18, b19, d19, rfl, hl18, hl19, hx18, hx19, hb18⟩
          have HS7 : Hid (S8 w [(b19, q'), (b18, p')] l2 c2 a2 w18) := ((HS6.out.on hb18).add hx18).add hx19
          clear HS6 hb18 hx18 hx19
          have CI := hid (iLess_any b18 b19 d18 d19 p' q' w18 (by omega) (by omega) (HS7.out.i b18 p' (by simp)) (HS7.out.i b19 q' (by simp)))
          have CS : Hid (∀ v, Is v.heap.size b18 p' v → Is v.heap.size b19 q' v → Calls Try.prog 18 #[.slice b18 p'.length d18, .slice b19 q'.length d19] v (JOut (lessV p' q') (lessOk p' q') v)) := fun v hv hv2 => sLess_any b18 b19 d18 d19 p' q' v (by omega) (by omega) hv hv2
          have LF := hid (lessV_len p' q')
          generalize lessV p' q' = F at *
          generalize lessOk p' q' = of at *
          go_wp2_with fail
          refine CI.out.mono ?_
          rintro e w20 ⟨b20, d20, rfl, hx20, hb20, _⟩
          have HS8 : Hid (S8 w [(b20, F), (b19, q'), (b18, p')] l2 c2 a2 w20) := (HS7.out.on hb20).add hx20.is
          clear HS7 hb20 hx20 CI
          go_wp2_with fail
          refine (CS.out _ (HS8.out.i b18 p' (by simp)) (HS8.out.i b19 q' (by simp))).mono ?_
          rintro e w21 ⟨b21, d21, rfl, hx21, hb21, _⟩
          have HS9 : Hid (S8 w [(b21, F), (b20, F), (b19, q'), (b18, p')] l2 c2 a2 w21) := (HS8.out.on hb21).add hx21.is
          clear HS8 hb21 hx21 CS
          have q3 : (of == of) = true := by cases of <;> rfl
          go_wp2_with fail
          refine (sameInts_same b20 b21 d20 d21 F _ (by have := LF.out; omega) (HS9.out.i b20 F (by simp)) (HS9.out.i b21 F (by simp))).mono ?_
          rintro e w22 ⟨rfl, hb22⟩
          have HS10 := hid (HS9.out.on hb22).below
          clear HS9 hb22
          go_wp2
          go_ret
          exact ⟨rfl, HS10.out⟩
set_option maxHeartbeats 400000 in
theorem lacked_big (l1 c1 l2 c2 : Nat) (a1 a2 : Option Addr) (w : World) (h1 : l1 ≤ 4611686018427387903) (h2 : l2 ≤ 4611686018427387903) (h12 : ¬ l1 + l2 ≤ 1048576) :
    Calls Try.prog 3 #[.slice a1 l1 c1, .slice a2 l2 c2] w fun e w' => e = .returned (.bool true) ∧ Below w.heap.size w w' := by
  have hd : decide ((1048576 : Int) < (l1 : Int) + (l2 : Int)) = true := by simp; omega
  go_enter Try.func3, Try.ntmps3
  go_wp2_with fail
  go_ret
  exact ⟨rfl, Below.refl _ _⟩
end Go.Proofs.Ytipeillhafcliaa
