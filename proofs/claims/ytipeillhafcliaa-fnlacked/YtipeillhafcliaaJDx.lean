/- What is drawn for LackedBy and ElementaryOf. -/
import Derived.Test.YtipeillhafcliaaJDw
namespace Go.Proofs.Ytipeillhafcliaa
set_option maxRecDepth 100000
open Go Go.ChangeShapes Go.WideShapes Go.ChangeAt Go.RowKit
set_option maxHeartbeats 4000000 in
theorem drawLack_any (len cap : Nat) (a : Option Addr) (w : World) (hK : Code w.heap.size len cap a w) :
    Calls Try.prog 14 #[.slice a len cap] w fun e w' => ∃ (l m : List Int) (b : Option Addr) (c : Nat) (p : Option Addr) (d : Nat), e = .returned (.tuple #[.slice b l.length c, .slice p m.length d]) ∧ l.length ≤ 40 ∧ m.length ≤ 4 ∧ Is w'.heap.size b l w' ∧ Is w'.heap.size p m w' ∧ Below w.heap.size w w' := by
  have HC : Hid (Cur w.heap.size 0 (.slice a len cap) (w.alloc (.cells #[.slice a len cap, .int .i64 0, .int .u64 0] 43))) := Cur.start _ _ _
  have HK : Hid (Code w.heap.size len cap a (w.alloc (.cells #[.slice a len cap, .int .i64 0, .int .u64 0] 43))) := hK.start _
  have hz : (w.alloc (.cells #[.slice a len cap, .int .i64 0, .int .u64 0] 43)).heap.size = w.heap.size + 1 := heap_size _ _
  have HD := hid (fun w' (h : But w.heap.size (w.alloc (.cells #[.slice a len cap, .int .i64 0, .int .u64 0] 43)) w') => But.done h)
  clear hK
  go_enter Try.func14, Try.ntmps14
  go_wp2_with fail
  generalize w.alloc (.cells #[.slice a len cap, .int .i64 0, .int .u64 0] 43) = w0 at *
  refine (set_any w.heap.size 0 len cap a _ (by omega) HC.out HK.out).mono ?_
  rintro e w2 ⟨v, l, rfl, hl, o2, hC2, hB2⟩
  have HC2 := hid hC2
  have HB2 := hid hB2
  have HK2 : Hid (Code w.heap.size len cap a w2) := HK.out.but hB2 (Nat.le_refl _) (by omega)
  have hs2 := hB2.size
  obtain ⟨b2, c2, rfl, ho2, hc2⟩ := o2.own
  have HO2 := hid ho2.toJ
  clear o2 ho2 hC2 hB2 HC
  go_wp2_with fail
  go_loopw [6, 7, 19] (fun o n i wr => ∃ (k m : Nat) (own : List Int) (o1 : Value), k ≤ l.length ∧ i = .int .i64 k ∧ n = .int .i64 m ∧ m ≤ 4 ∧ own.length ≤ k ∧ o = o1 ∧ AL w2.heap.size o1 own wr ∧ OwnJ w0.heap.size w2.heap.size b2 l wr ∧ Cur w.heap.size (300 + 2 * k) (.slice a len cap) wr ∧ But w.heap.size w0 wr ∧ w2.heap.size ≤ wr.heap.size) (fun _ _ i _ => l.length - (intOf i).toNat)
  case atStart => exact ⟨0, 0, [], _, Nat.zero_le _, rfl, rfl, by omega, by simp, rfl, AL.nil _ _, HO2.out, HC2.out.mono (by omega), HB2.out, Nat.le_refl _⟩
  case round =>
    clear HO2 HC2 HB2 HK2
    obtain ⟨k, m, own, _, hk, rfl, rfl, hm, how, rfl, hown, hx, hcur, hbut, hs2r⟩ := hrel
    have HOWN := hid hown
    have HX := hid hx
    have HCUR := hid hcur
    have HBUT := hid hbut
    have HCODE : Hid (Code w.heap.size len cap a wr) := HK.out.but hbut (Nat.le_refl _) (by omega)
    have hszr := hbut.size
    clear hown hx hcur hbut
    by_cases hlt : k < l.length
    · obtain ⟨b1, off, e6, hb, hc⟩ := HX.out.is.cell (by omega)
      subst e6
      have y0 := hc k hlt
      clear hc
      generalize l[k] = x at *
      by_cases hm4 : m < 4
      · have hd : decide ((m : Int) < 4) = true := decide_eq_true (by omega)
        go_wp2_with fail
        refine (one_any _ w.heap.size _ len cap a _ (by omega) (by omega) (by omega) HCUR.out HCODE.out).mono ?_
        rintro e w4 ⟨v4, rfl, hC4, hB4⟩
        have HO4 := hid (HOWN.out.but hB4 (by omega))
        have HX4 := hid (HX.out.but hB4 (by omega))
        have HC4 := hid hC4
        have HB4 := hid (HBUT.out.trans hB4)
        have hs4 := hB4.size
        clear hC4 hB4 HOWN HX HCUR HBUT HCODE y0
        cases v4
        · have o4 := HO4.out
          obtain ⟨v5, w5, r5, o5, g5, -⟩ := o4.push (by omega) x (by omega)
          have HO5 := hid o5
          have HX5 := hid (HX4.out.keep g5)
          have HC5 := hid (HC4.out.on g5 (by omega))
          have HB5 := hid (HB4.out.on g5 (by omega))
          have hs5 := g5.size
          clear o4 o5 g5 HO4 HX4 HC4 HB4
          go_wp2_with (at_builtin; refine wpList_append_run rfl (.tmp 31) (.tmp 33) 23 rfl _ _ rfl rfl _ _ r5 ?_)
          go_roundw
          case rel => exact ⟨k + 1, m, own ++ [x], _, by omega, by go_num, rfl, hm, by rw [List.length_append]; simp; omega, rfl, HO5.out, HX5.out, HC5.out.mono (by omega), HB5.out, by omega⟩
          case measure => simp [intOf]; omega
        · go_wp2_with fail
          go_roundw
          case rel => exact ⟨k + 1, m + 1, own, _, by omega, by go_num, by go_num, by omega, by omega, rfl, HO4.out, HX4.out, HC4.out.mono (by omega), HB4.out, by omega⟩
          case measure => simp [intOf]; omega
      · have hd : decide ((m : Int) < 4) = false := decide_eq_false (by omega)
        have o4 := HOWN.out
        obtain ⟨v5, w5, r5, o5, g5, -⟩ := o4.push (by omega) x (by omega)
        have HO5 := hid o5
        have HX5 := hid (HX.out.keep g5)
        have HC5 := hid (HCUR.out.on g5 (by omega))
        have HB5 := hid (HBUT.out.on g5 (by omega))
        have hs5 := g5.size
        clear o4 o5 g5 HOWN HX HCUR HBUT HCODE
        go_wp2_with (at_builtin; refine wpList_append_run rfl (.tmp 31) (.tmp 33) 23 rfl _ _ rfl rfl _ _ r5 ?_)
        go_roundw
        case rel => exact ⟨k + 1, m, own ++ [x], _, by omega, by go_num, rfl, hm, by rw [List.length_append]; simp; omega, rfl, HO5.out, HX5.out, HC5.out.mono (by omega), HB5.out, by omega⟩
        case measure => simp [intOf]; omega
    · obtain rfl : k = l.length := by omega
      have HSP := hid (sPow_any b2 c2 l (m : Int) wr (by omega) HX.out.is)
      have HVL := hid (powV_len l (m : Int))
      generalize powV l (m : Int) = V at *
      obtain ⟨b3, c3, e3, ho3, hc3⟩ := HOWN.out.own
      subst e3
      have HW := hid ho3.toJ
      clear ho3 HX
      go_wp2_with fail
      refine HSP.out.mono ?_
      rintro e w4 ⟨b4, c4, rfl, o4, g4, hc4⟩
      have hs4 := g4.size
      have HO4 := hid o4
      have HW4 := hid (HW.out.below g4)
      have HC4 := hid (HCUR.out.on g4 (by omega))
      have HB4 := hid (HBUT.out.on g4 hszr)
      have HK4 : Hid (Code w.heap.size len cap a w4) := HK.out.but HB4.out (Nat.le_refl _) (by omega)
      clear o4 g4 HSP HOWN HCUR HBUT HCODE
      by_cases hl0 : 0 < V.length
      · have hd2 : decide ((0 : Int) < (V.length : Int)) = true := decide_eq_true (by omega)
        go_wp2_with fail
        refine (one_any _ w.heap.size _ len cap a _ (by omega) (by omega) (by omega) HC4.out HK4.out).mono ?_
        rintro e w5 ⟨v5, rfl, hC5, hB5⟩
        have hb5 := HB4.out.trans hB5
        have o5 := HO4.out.but hB5 (by omega)
        have q5 := HW4.out.but hB5 (by omega)
        have hs5 := hB5.size
        cases v5
        · have HI := hid q5.is
          have HI2 := hid o5.is
          have HBB := hid (HD.out _ hb5)
          clear hC5 hB5 HO4 HC4 HB4 HK4 HW4 hb5 o5 q5
          go_wp2
          go_ret2
          exact ⟨own, V, b3, c3, b4, c4, rfl, by omega, HVL.out, HI.out, HI2.out, HBB.out⟩
        · obtain ⟨R, off, e7, hR, hRl, hc7, hf7, hset⟩ := o5.put hl0
          subst e7
          rw [Nat.add_zero] at hc7 hf7 hset
          have HG6 : Hid (∀ u, Below wr.heap.size w5 (w5.setCell ⟨R, off, none⟩ u)) := fun u => setB (Below.refl _ _) R off hR u
          have HI : Hid (∀ u, Is (w5.setCell ⟨R, off, none⟩ u).heap.size b3 own (w5.setCell ⟨R, off, none⟩ u)) := fun u => (q5.keep (HG6.out u)).is
          have HS := hid hset
          have HBB := hid hb5
          clear hC5 hB5 HO4 HC4 HB4 HK4 HW4 hb5 o5 q5 hset
          generalize V[0] = x at *
          go_wp2
          go_ret2
          exact ⟨own, V.set 0 _, b3, c3, _, c4, by rw [List.length_set]; rfl, by omega, by rw [List.length_set]; exact HVL.out, HI.out _, (HS.out _).is, HD.out _ (HBB.out.on (HG6.out _) hszr)⟩
      · have hd2 : decide ((0 : Int) < (V.length : Int)) = false := decide_eq_false (by omega)
        have HI := hid HW4.out.is
        have HI2 := hid HO4.out.is
        have HBB := hid (HD.out _ HB4.out)
        clear HO4 HC4 HB4 HK4 HW4
        go_wp2
        go_ret2
        exact ⟨own, V, b3, c3, b4, c4, rfl, by omega, HVL.out, HI.out, HI2.out, HBB.out⟩
set_option maxHeartbeats 4000000 in
theorem drawElem_any (len cap : Nat) (a : Option Addr) (w : World) (hK : Code w.heap.size len cap a w) :
    Calls Try.prog 23 #[.slice a len cap] w fun e w' => ∃ (l : List Int) (b : Option Addr) (c : Nat), e = .returned (.slice b l.length c) ∧ l.length ≤ 4 ∧ l.length ≤ c ∧ Is w'.heap.size b l w' ∧ Below w.heap.size w w' := by
  have HC : Hid (Cur w.heap.size 0 (.slice a len cap) (w.alloc (.cells #[.slice a len cap, .int .i64 0, .int .u64 0] 43))) := Cur.start _ _ _
  have HK : Hid (Code w.heap.size len cap a (w.alloc (.cells #[.slice a len cap, .int .i64 0, .int .u64 0] 43))) := hK.start _
  have hz : (w.alloc (.cells #[.slice a len cap, .int .i64 0, .int .u64 0] 43)).heap.size = w.heap.size + 1 := heap_size _ _
  have HD := hid (fun w' (h : But w.heap.size (w.alloc (.cells #[.slice a len cap, .int .i64 0, .int .u64 0] 43)) w') => But.done h)
  clear hK
  go_enter Try.func23, Try.ntmps23
  go_wp2_with fail
  generalize w.alloc (.cells #[.slice a len cap, .int .i64 0, .int .u64 0] 43) = w0 at *
  refine (set_any w.heap.size 0 len cap a _ (by omega) HC.out HK.out).mono ?_
  rintro e w2 ⟨v, l, rfl, hl, o2, hC2, hB2⟩
  have HC2 := hid hC2
  have HB2 := hid hB2
  have HO2 := hid o2
  have HK2 : Hid (Code w.heap.size len cap a w2) := HK.out.but hB2 (Nat.le_refl _) (by omega)
  have hs2 := hB2.size
  clear o2 hC2 hB2 HC
  go_wp2_with fail
  refine (pick_any _ w.heap.size _ len cap a _ (by omega) (by omega) (by omega) HC2.out HK2.out).mono ?_
  rintro e w3 ⟨n, rfl, n0, n1, hC3, hB3⟩
  have HC3 := hid hC3
  have HB3 := hid (HB2.out.trans hB3)
  have hs3 := HB3.out.size
  obtain ⟨b3, c3, rfl, ho3, hc3⟩ := (HO2.out.but hB3 (by omega)).own
  have HSP := hid (sPow_any b3 c3 l n w3 (by omega) ho3.is)
  have HVL := hid (powV_len l n)
  generalize powV l n = V at *
  clear ho3 hC3 hB3 HC2 HB2 HK2 HO2 n0 n1
  go_wp2_with fail
  refine HSP.out.mono ?_
  rintro e w4 ⟨b4, c4, rfl, o4, g4, hc4⟩
  have hs4 := g4.size
  have HO4 := hid (o4.mono hs3 (Nat.le_refl _))
  have HC4 := hid (HC3.out.on g4 (by omega))
  have HB4 := hid (HB3.out.on g4 hs3)
  have HK4 : Hid (Code w.heap.size len cap a w4) := HK.out.but HB4.out (Nat.le_refl _) (by omega)
  have hvl := HVL.out
  clear o4 g4 HSP HC3 HB3
  generalize powOk l n = pk at *
  go_upto_region 3 with fail
  go_cut [23] (fun s wc => ∃ q : Bool, s = .bool q ∧ (q = true → 0 < V.length) ∧ OwnJ w0.heap.size w4.heap.size b4 V wc ∧ Cur w.heap.size 310 (.slice a len cap) wc ∧ But w.heap.size w0 wc ∧ w4.heap.size ≤ wc.heap.size)
  case first =>
    as_aux_lemma =>
      by_cases hl0 : 0 < V.length
      · have hd2 : decide ((0 : Int) < (V.length : Int)) = true := decide_eq_true (by omega)
        go_wp2_with fail
        refine (one_any _ w.heap.size _ len cap a _ (by omega) (by omega) (by omega) HC4.out HK4.out).mono ?_
        rintro e w5 ⟨v5, rfl, hC5, hB5⟩
        have HO5 := hid (HO4.out.but hB5 (by omega))
        have HC5 := hid hC5
        have HB5 := hid (HB4.out.trans hB5)
        have HS5 := hid hB5.size
        clear hC5 hB5 HC4 HB4 HK4 HO4
        go_wp2_with fail
        go_meet
        case rel => exact ⟨_, rfl, fun _ => hl0, HO5.out, HC5.out.mono (by omega), HB5.out, HS5.out⟩
      · have hd2 : decide ((0 : Int) < (V.length : Int)) = false := decide_eq_false (by omega)
        go_wp2_with fail
        go_meet
        case rel => exact ⟨_, rfl, (fun h => by cases h), HO4.out, HC4.out.mono (by omega), HB4.out, Nat.le_refl _⟩
  case rest =>
    as_aux_lemma =>
      obtain ⟨q, rfl, hq, o5, hC5, hB5, hs5⟩ := hcut
      have HO5 := hid o5
      have HC5 := hid hC5
      have HB5 := hid hB5
      have hs05 := hB5.size
      have HK5 := hid (HK.out.but hB5 (Nat.le_refl _) (by omega))
      clear o5 hC5 hB5 HO4 HC4 HB4 HK4
      go_upto_if 23 with fail
      go_cut [] (fun wd => ∃ V2 : List Int, V2.length = V.length ∧ OwnJ w0.heap.size w4.heap.size b4 V2 wd ∧ Cur w.heap.size 320 (.slice a len cap) wd ∧ But w.heap.size w0 wd ∧ w4.heap.size ≤ wd.heap.size)
      case first =>
        as_aux_lemma =>
          cases q
          · go_wp2_with fail
            go_meet
            case rel => exact ⟨V, rfl, HO5.out, HC5.out.mono (by omega), HB5.out, hs5⟩
          · have hl0 := hq rfl
            obtain ⟨R, off, e7, hR, hRl, _, _, _⟩ := HO5.out.put hl0
            subst e7
            have HPUT : Hid (∀ k (hk : k < V.length) W, But w.heap.size _ W → W.cell? ⟨R, off + k, none⟩ = some (.int .i64 V[k]) ∧ W.frozen? ⟨R, off + k, none⟩ = false ∧ ∀ x, OwnJ w0.heap.size w4.heap.size (some ⟨R, off, none⟩) (V.set k x) (W.setCell ⟨R, off + k, none⟩ (.int .i64 x))) := fun k hk W hW => by
              obtain ⟨R2, off2, e2, _, _, p1, p2, p3⟩ := (HO5.out.but hW (by omega)).put hk
              injection e2 with e2
              injection e2 with e2 e3 _
              subst e2; subst e3
              exact ⟨p1, p2, p3⟩
            have HP := hid (pick_any (V.length : Int) w.heap.size _ len cap a _ (by omega) (by omega) (by omega) HC5.out.drew (HK5.out.but ((But.refl w.heap.size _).drew) (Nat.le_refl _) (by omega)))
            have hRB : w.heap.size ≠ R := by omega
            go_wp2_with fail
            go_region_with (first | (go_at_call 30; refine HP2.out.mono ?_; rintro e w7 ⟨y, rfl, y0, y1, hC7, hB7⟩; have hb7 := hb6.trans hB7; obtain ⟨c7, f7, _⟩ := HPUT.out kk hkl w7 hb7) | (go_at_call 30; (refine HP.out.mono ?_; rintro e w6 ⟨x, rfl, x0, x1, hC6, hB6⟩; obtain ⟨kk, hkk⟩ : ∃ kk : Nat, x = (kk : Int) := ⟨x.toNat, by omega⟩; subst hkk; have hkl : kk < V.length := (by omega); have hb6 := ((But.refl w.heap.size _).drew).trans hB6; obtain ⟨c6, f6, _⟩ := HPUT.out kk hkl w6 hb6; have HP2 := hid (pick_any 3 w.heap.size _ len cap a w6 (by omega) (by omega) (by omega) hC6 (HK5.out.but hb6 (Nat.le_refl _) (by omega))))))
            all_goals
              obtain ⟨_, _, hset⟩ := HPUT.out kk hkl w7 hb7
              have HSET := hid hset
              have HC7 := hid hC7
              have HB7 := hid (HB5.out.trans hb7)
              have hs7 := hb7.size
              have HG : Hid (∀ u, Below w0.heap.size w7 (w7.setCell ⟨R, off + kk, none⟩ u)) := fun u => setB (Below.refl _ _) R (off + kk) hR u
              clear hset hC7 hB7 hb7 hC6 hB6 hb6 HP HP2 HPUT c6 f6 c7 f7
              go_wp2_with fail
              go_meet
              case rel => exact ⟨V.set kk _, List.length_set, HSET.out _, (HC7.out.on (HG.out _) (by omega)).mono (by omega), HB7.out.on (HG.out _) (Nat.le_refl _), by simp; omega⟩
      case rest =>
        as_aux_lemma =>
          clear HO5 HC5 HB5 HK5
          obtain ⟨V2, hv2, o6, hC6, hB6, hs6⟩ := hcut
          have HO6 := hid o6
          have HC6 := hid hC6
          have HB6 := hid hB6
          have HV2 := hid hv2
          have hs06 := hB6.size
          have HK6 := hid (HK.out.but hB6 (Nat.le_refl _) (by omega))
          clear o6 hC6 hB6 hv2
          by_cases hl0 : 0 < V.length
          · have hd2 : decide ((0 : Int) < (V.length : Int)) = true := decide_eq_true (by omega)
            go_wp2_with fail
            refine (one_any _ w.heap.size _ len cap a _ (by omega) (by omega) (by omega) HC6.out HK6.out).mono ?_
            rintro e w7 ⟨v7, rfl, hC7, hB7⟩
            have o7 := HO6.out.but hB7 (by omega)
            have hb7 := HB6.out.trans hB7
            have hs7 := hB7.size
            have HK7 := hid (HK6.out.but hB7 (Nat.le_refl _) (by omega))
            cases v7
            · have HI := hid o7.is
              have HBB := hid (HD.out _ hb7)
              clear o7 hb7 hC7 hB7 HO6 HC6 HB6 HK6 HK7
              go_wp2
              go_ret
              exact ⟨V2, b4, c4, by rw [HV2.out]; rfl, by rw [HV2.out]; exact hvl, by rw [HV2.out]; exact hc4, HI.out, HBB.out⟩
            · have HC7 := hid hC7
              have HB7 := hid hb7
              have HO7 := hid o7
              have h20 : 0 < V2.length := by rw [HV2.out]; exact hl0
              obtain ⟨R, off, e7, hR, hRl, _, _, _⟩ := o7.put h20
              subst e7
              clear hC7 hB7 hb7 o7 HO6 HC6 HB6 HK6
              go_wp2_with fail
              refine (among_any [1000000000, 1000000001, -1000000000] 3 w7.heap.size w.heap.size _ len cap 3 a _ rfl (by decide) (by decide) (by simp) (by omega) (fun i hi => lits_at [1000000000, 1000000001, -1000000000] w7 i hi) (by omega) (HC7.out.alloc _) (HK7.out.but ((But.refl w.heap.size w7).alloc _) (Nat.le_refl _) (by omega))).mono ?_
              rintro e w8 ⟨i, _, rfl, hC8, hB8⟩
              have hb78 := ((But.refl w.heap.size w7).alloc (.cells #[.int .i64 1000000000, .int .i64 1000000001, .int .i64 (-1000000000)] 3)).trans hB8
              obtain ⟨R2, off2, e2, _, _, p1, p2, p3⟩ := (HO7.out.but hb78 (by omega)).put h20
              injection e2 with e2
              injection e2 with e2 e3 _
              subst e2; subst e3
              rw [Nat.add_zero] at p1 p2 p3
              have HS := hid p3
              have HB8 := hid (HB7.out.trans hb78)
              have HG : Hid (∀ u, Below w0.heap.size w8 (w8.setCell ⟨R, off, none⟩ u)) := fun u => setB (Below.refl _ _) R off hR u
              have HDD := hid (fun u => HD.out _ (HB8.out.on (HG.out u) (Nat.le_refl _)))
              clear p3 hC8 hB8 hb78 HC7 HB7 HO7 HK7 HG HB8
              generalize ([1000000000, 1000000001, -1000000000] : List Int).getD i 0 = z at *
              generalize V2[0] = y at *
              go_wp2
              go_ret
              exact ⟨V2.set 0 z, _, c4, by rw [List.length_set, HV2.out]; rfl, by rw [List.length_set, HV2.out]; exact hvl, by rw [List.length_set, HV2.out]; exact hc4, (HS.out _).is, HDD.out _⟩
          · have hd2 : decide ((0 : Int) < (V.length : Int)) = false := decide_eq_false (by omega)
            have HI := hid HO6.out.is
            have HBB := hid (HD.out _ HB6.out)
            clear HO6 HC6 HB6 HK6
            go_wp2
            go_ret
            exact ⟨V2, b4, c4, by rw [HV2.out]; rfl, by rw [HV2.out]; exact hvl, by rw [HV2.out]; exact hc4, HI.out, HBB.out⟩
end Go.Proofs.Ytipeillhafcliaa
