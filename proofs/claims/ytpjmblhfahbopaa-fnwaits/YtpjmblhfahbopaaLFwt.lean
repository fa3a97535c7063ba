/- The law on waits: its walk out of the contracts. -/
import Derived.Test.YtpjmblhfahbopaaATel
import Derived.Test.YtpjmblhfahbopaaAWtM
import Derived.Deep.DeepCutAuto
import Derived.Deep.QuietTactic
import Derived.BigQuiet
namespace Go.Proofs.Ytpjmblhfahbopaa
set_option maxRecDepth 100000
open Go Go.ChangeShapes Go.WideShapes Go.ChangeAt Go.RowKit
/-- a list and a truth value, in memory of one's own, with room for it -/
def LOutC (V : List Int) (ok : Bool) (w : World) (e : Ending) (w' : World) : Prop := ∃ b c, e = .returned (.tuple #[.slice b V.length c, .bool ok]) ∧ OwnI w.heap.size w'.heap.size b V w' ∧ Below w.heap.size w w' ∧ V.length ≤ c
theorem LOutC.yes {V : List Int} {w w' : World} {v : Value} (h : AL w.heap.size v V w') (g : Below w.heap.size w w') : LOutC V true w (.returned (.tuple #[v, .bool true])) w' := by
  obtain ⟨b, c, rfl, ho, hc⟩ := h.own
  exact ⟨b, c, rfl, ho, g, hc⟩
set_option maxHeartbeats 1000000 in
theorem isoC_yes (s : Int) (a : Option Addr) (cap : Nat) (l : List Int) (up : Bool) (w : World) (hn : l.length ≤ 1048576) (hZ : Is w.heap.size a l w) (hg : goodT s l = true) :
    Calls Try.prog 19 #[.int .i64 s, .slice a l.length cap, .bool up] w (LOutC (sweepL s l up) true w) := by
  have hp := goodT_parts hg
  have h8 := goodA_len hp.2
  have HT := hid (isTrack_any s w)
  have HG := hid (igoodA_any a cap l w hn hZ)
  rw [trkB_iff.2 hp.1] at HT
  rw [hp.2] at HG
  have HU := hid (sweepUp_any s a cap l w (by omega) hZ)
  have HD := hid (sweepDown_any s a cap l w (by omega) hZ)
  clear hg hZ hp
  cases up
  · go_enter Try.func19, Try.ntmps19
    go_wp2_with fail
    refine HT.out.mono ?_
    rintro e w2 ⟨rfl, hw2⟩
    rw [hw2]
    clear hw2
    go_wp2_with fail
    refine HG.out.mono ?_
    rintro e w2 ⟨rfl, hw2⟩
    rw [hw2]
    clear hw2
    go_wp2_with fail
    refine HD.out.mono ?_
    rintro e w3 ⟨v, rfl, o3, b3⟩
    have HO := hid o3
    have HB := hid b3
    clear o3 b3 HU HD HG HT
    go_wp2
    go_ret2
    exact LOutC.yes HO.out HB.out
  · go_enter Try.func19, Try.ntmps19
    go_wp2_with fail
    refine HT.out.mono ?_
    rintro e w2 ⟨rfl, hw2⟩
    rw [hw2]
    clear hw2
    go_wp2_with fail
    refine HG.out.mono ?_
    rintro e w2 ⟨rfl, hw2⟩
    rw [hw2]
    clear hw2
    go_wp2_with fail
    refine HU.out.mono ?_
    rintro e w3 ⟨v, rfl, o3, b3⟩
    have HO := hid o3
    have HB := hid b3
    clear o3 b3 HU HD HG HT
    go_wp2
    go_ret2
    exact LOutC.yes HO.out HB.out
theorem sweepC_tells (s : Int) (l : List Int) (up : Bool) (hn : l.length ≤ 1048576) : ∃ (V : List Int), V.length ≤ l.length ∧ (goodT s l = true → V = sweepL s l up) ∧
    (∀ q d v, Is v.heap.size q l v → Calls Try.prog 20 #[.int .i64 s, .slice q l.length d, .bool up] v (LOut V (goodT s l) v)) ∧ (∀ q d v, Is v.heap.size q l v → Calls Try.prog 19 #[.int .i64 s, .slice q l.length d, .bool up] v (LOutC V (goodT s l) v)) := by
  cases hg : goodT s l
  · exact ⟨[], Nat.zero_le _, (fun h => by cases h), fun q d v hv => sso_no s q d l up v hn hv hg, fun q d v hv => (iso_no s q d l up v hn hv hg).mono fun _ _ ⟨b, c, h1, h2, h3⟩ => ⟨b, c, h1, h2, h3, Nat.zero_le _⟩⟩
  · exact ⟨sweepL s l up, by rw [sweepL_len]; exact Nat.le_refl _, fun _ => rfl, fun q d v hv => sso_yes s q d l up v hn hv hg, fun q d v hv => isoC_yes s q d l up v hn hv hg⟩
theorem runT_zero (t : Tn) : runT t [] = t := rfl
set_option maxHeartbeats 2500000 in
theorem waits_small (l1 c1 l2 c2 : Nat) (a1 a2 : Option Addr) (w : World) (h12 : l1 + l2 ≤ 1048576) (hK1 : Code w.heap.size l1 c1 a1 w) (hK2 : Code w.heap.size l2 c2 a2 w) :
    Calls Try.prog 4 #[.slice a1 l1 c1, .slice a2 l2 c2] w fun e w' => e = .returned (.bool true) ∧ Below w.heap.size w w' := by
  have hd : decide ((1048576 : Int) < (l1 : Int) + (l2 : Int)) = false := by simp; omega
  have HK1 := hid hK1
  have HS : Hid (S8 w [] l2 c2 a2 w) := ⟨Below.refl _ _, hK2, (fun _ h => by cases h)⟩
  clear hK1 hK2
  go_enter Try.func4, Try.ntmps4
  go_wp2_with fail
  refine (drawSweep_any l1 c1 a1 _ HK1.out).mono ?_
  rintro e w1 ⟨s, l, b, c, up, rfl, hl, hlc, hx, hb⟩
  have HS1 : Hid (S8 w [(b, l)] l2 c2 a2 w1) := (HS.out.on hb).add hx
  obtain ⟨V, hVl, hV, TS, TI⟩ := sweepC_tells s l up (by omega)
  have HV := hid hV
  have HTS := hid TS
  have HTI := hid TI
  have HGT : Hid (∀ m, goodT s l = true → m.length = l.length → (∀ x ∈ m, x ∈ l) → goodT s m = true) := fun m h => good_perm h
  obtain ⟨ok, hok⟩ : ∃ ok, goodT s l = ok := ⟨_, rfl⟩
  rw [hok] at HV HTS HTI HGT
  clear HS HK1 hb hx hV TS TI hok
  go_wp2_with fail
  refine (HTI.out b c _ (HS1.out.i b l (by simp))).mono ?_
  rintro e w2 ⟨b2, d2, rfl, hx, hb, hd2⟩
  have HS2 : Hid (S8 w [(b2, V), (b, l)] l2 c2 a2 w2) := (HS1.out.on hb).add hx.is
  clear HS1 hb hx HTI
  go_wp2_with fail
  refine (HTS.out b c _ (HS2.out.i b l (by simp))).mono ?_
  rintro e w3 ⟨b3, d3, rfl, hx, hb⟩
  have HS3 : Hid (S8 w [(b3, V), (b2, V), (b, l)] l2 c2 a2 w3) := (HS2.out.on hb).add hx.is
  clear HS2 hb hx HTS
  go_wp2_with fail
  refine (sameInts_same b2 b3 d2 d3 V _ (by omega) (HS3.out.i b2 V (by simp)) (HS3.out.i b3 V (by simp))).mono ?_
  rintro e w6 ⟨rfl, hb⟩
  have HS6 := hid (HS3.out.on hb)
  clear HS3 hb
  go_upto_if 69 with fail
  go_cut [] (fun wd => S8 w [] l2 c2 a2 wd)
  case first =>
    as_aux_lemma =>
      cases ok
      · go_wp2_with fail
        go_meet
        case rel => exact HS6.out.bare
      · have hV := HV.out rfl
        have hVlen : V.length = l.length := by rw [hV, sweepL_len]
        have hGV := HGT.out V rfl hVlen (fun x hx => by rw [hV] at hx; exact sweepL_mem.1 hx)
        have HTU : Hid ((runT ⟨0, s, up⟩ V).turns ≤ 1) := by show _ ≤ 1; rw [hV]; exact sweep_turns s l up
        have hn9 : V.length ≤ 1048576 := by omega
        have T1 : ∀ v, Is v.heap.size b2 V v → Calls Try.prog 10 #[.int .i64 s, .slice b2 V.length d2] v fun e w' => e = .returned (.tuple #[.int .i64 (trav s V : Int), .bool true]) ∧ w' = v := fun v hv => by
          have := itravel_any s b2 d2 V v hn9 hv
          rwa [hGV, travN_yes hGV] at this
        have T2 : ∀ v, Is v.heap.size b2 V v → Calls Try.prog 21 #[.int .i64 s, .slice b2 V.length d2] v (LOut (waitsL s V V.length) true v) := fun v hv => iwaits_yes s b2 d2 V v hn9 hd2 hv hGV
        have HT1 := hid T1
        have HT2 := hid T2
        have h1 : ((V.length : Int) == (l.length : Int)) = true := by rw [hVlen]; simp
        have hV8 : V.length ≤ 9 := by omega
        have HR0 := hid (runT_le)
        have HRS := hid runT_snoc
        clear hV hVlen hGV T1 T2 HV HGT
        go_wp2_with fail
        go_loopw [12, 13, 14, 74] (fun t m r i wr => ∃ (k : Nat), k ≤ V.length ∧ i = .int .i64 k ∧ t = .int .i64 ((runT ⟨0, s, up⟩ (V.take k)).turns : Int) ∧ m = .int .i64 (runT ⟨0, s, up⟩ (V.take k)).arm ∧ r = .bool (runT ⟨0, s, up⟩ (V.take k)).up ∧ wr = w6) (fun _ _ _ i _ => V.length - (intOf i).toNat)
        case atStart => exact ⟨0, Nat.zero_le _, rfl, rfl, rfl, rfl, rfl⟩
        case round =>
          obtain ⟨k, hk, rfl, rfl, rfl, rfl, hwr⟩ := hrel
          rw [hwr]
          clear hwr
          by_cases hlt : k < V.length
          · obtain ⟨bb, off, rfl, hbb, hcc⟩ := (HS6.out.i b2 V (by simp)).cell (by omega)
            have x0 := hcc k hlt
            have HST : Hid (runT ⟨0, s, up⟩ (V.take (k + 1)) = stepT (runT ⟨0, s, up⟩ (V.take k)) V[k]) := by
              show _ = _
              rw [List.take_succ_eq_append_getElem hlt, HRS.out]
            have hrl := HR0.out (V.take k) ⟨0, s, up⟩
            rw [List.length_take] at hrl
            have hrb : (runT ⟨0, s, up⟩ (V.take k)).turns ≤ 20 := by simp only at hrl; omega
            clear hcc hrl
            generalize V[k] = x at *
            generalize runT ⟨0, s, up⟩ (V.take k) = T at *
            obtain ⟨tt, ta, tu⟩ := T
            simp only at hrb HST ⊢
            by_cases c1 : x = ta
            · have e1 : Hid (stepT ⟨tt, ta, tu⟩ x = ⟨tt, x, tu⟩) := by show _ = _; unfold stepT turnB; simp [c1]
              have q1 : (x == ta) = true := by simpa using c1
              have q1b : (x != ta) = false := by simp [c1]
              clear c1
              go_wp2_with fail
              all_goals first
                | (exfalso
                   rename_i hne
                   exact hne (eq_of_beq q1))
                | (go_roundw
                   case rel => exact ⟨k + 1, by omega, by go_num, by rw [HST.out, e1.out], by rw [HST.out, e1.out], by rw [HST.out, e1.out], by trivial⟩
                   case measure => simp [intOf]; omega)
            · have q1 : (x == ta) = false := by simpa using c1
              have q1b : (x != ta) = true := by simp [c1]
              obtain ⟨bd, hbd⟩ : ∃ bd, decide (ta < x) = bd := ⟨_, rfl⟩
              have e1 : Hid (stepT ⟨tt, ta, tu⟩ x = if (bd != tu) = true then ⟨tt + 1, x, !tu⟩ else ⟨tt, x, tu⟩) := by
                show _ = _
                unfold stepT turnB
                simp only [q1, hbd, Bool.not_false, Bool.true_and]
              have HQ1 := hid q1
              clear c1
              cases bd <;> cases tu
              all_goals
                go_wp2_with fail
                all_goals first
                  | (exfalso
                     rename_i hne
                     exact (of_decide_eq_true HQ1.out).elim)
                  | (go_roundw
                     case rel => exact ⟨k + 1, by omega, by go_num, by rw [HST.out, e1.out]; first | rfl | go_num, by rw [HST.out, e1.out]; rfl, by rw [HST.out, e1.out]; rfl, by trivial⟩
                     case measure => simp [intOf]; omega)
          · obtain rfl : k = V.length := by omega
            rw [List.take_length]
            have htu := HTU.out
            generalize (runT ⟨0, s, up⟩ V) = T at *
            obtain ⟨tt, ta, tu⟩ := T
            simp only at htu ⊢
            have d1 : decide ((1 : Int) < (tt : Int)) = false := decide_eq_false (by omega)
            go_wp2_with fail
            refine (HT2.out _ (HS6.out.i b2 V (by simp))).mono ?_
            rintro e w7 ⟨b7, d7, rfl, hx, hb⟩
            have HS7 : Hid (S8 w [(b7, waitsL s V V.length), (b3, V), (b2, V), (b, l)] l2 c2 a2 w7) := (HS6.out.on hb).add hx.is
            clear HS6 hb hx HT2
            go_wp2_with fail
            refine (HT1.out _ (HS7.out.i b2 V (by simp))).mono ?_
            rintro e w8 ⟨rfl, hw⟩
            rw [hw]
            clear hw HT1
            rw [waitsL_len]
            have HWI := hid (HS7.out.i b7 (waitsL s V V.length) (by simp))
            have HWL := hid (waitsL_len s V V.length)
            have HWA := hid (waits_at s V V.length)
            have HWR := hid (waits_rise s V)
            have HLAST : Hid (∀ q, V.length = q + 1 → (trav s (V.take (q + 1)) : Int) = (trav s V : Int)) := fun q hq => by rw [List.take_of_length_le (by omega)]
            have hle : V.length = l.length := by have := eq_of_beq h1; omega
            have HLE2 := hid hle
            clear htu hk hlt HTU HR0 HRS h1 hle hVl hl hlc hd2
            generalize hL : V.length = L at *
            have HL := hid hL
            clear hL
            generalize l.length = M at *
            obtain rfl : L = M := HLE2.out
            clear HLE2
            cases L with
            | zero =>
              go_wp2_with fail
              go_loopw [21] (fun i wr => i = .int .i64 1 ∧ wr = w7) (fun _ _ => 0)
              case atStart => exact ⟨rfl, rfl⟩
              case round =>
                obtain ⟨rfl, hwr⟩ := hrel
                rw [hwr]
                clear hwr
                go_wp2_with fail
                go_meet
                case rel => exact HS7.out.bare
            | succ p =>
              obtain ⟨bw, ow, rfl, hbw, hcw⟩ := HWI.out.cell (by rw [HWL.out]; omega)
              have HCW : Hid (∀ k, k < p + 1 → w7.cell? ⟨bw, ow + k, none⟩ = some (.int .i64 (trav s (V.take (k + 1)) : Int))) := fun k hk => by
                have hk' : k < (waitsL s V (p + 1)).length := by rw [HWL.out]; exact hk
                rw [hcw k hk', HWA.out k hk']
              have z0 := HCW.out p (by omega)
              rw [HLAST.out p rfl] at z0
              clear hcw
              generalize (trav s V : Int) = tv at *
              go_wp2_with fail
              clear z0
              go_loopw [21] (fun i wr => ∃ k : Nat, k ≤ p ∧ i = .int .i64 ((k : Int) + 1) ∧ S8 w [(some ⟨bw, ow, none⟩, waitsL s V (p + 1)), (b3, V), (b2, V), (b, l)] l2 c2 a2 wr ∧ ∀ j, wr.cell? ⟨bw, j, none⟩ = w7.cell? ⟨bw, j, none⟩) (fun i _ => p + 1 - (intOf i).toNat)
              case atStart => exact ⟨0, Nat.zero_le _, rfl, HS7.out, fun _ => rfl⟩
              case round =>
                obtain ⟨k, hk, rfl, hs8, hcl⟩ := hrel
                have HSR := hid hs8
                have HCL := hid hcl
                by_cases hkp : k < p
                · have d9 : decide ((k : Int) + 1 < ((p + 1 : Nat) : Int)) = true := decide_eq_true (by omega)
                  have d9b : decide ((k : Int) < (p : Int)) = true := decide_eq_true (by omega)
                  have x0 := (hcl (ow + (k + 1))).trans (HCW.out (k + 1) (by omega))
                  have y0 := (hcl (ow + k)).trans (HCW.out k (by omega))
                  have hri := HWR.out k (by omega)
                  have dr : decide ((trav s (V.take (k + 1 + 1)) : Int) < (trav s (V.take (k + 1)) : Int)) = false := decide_eq_false (by omega)
                  clear hs8 hcl hri HS7
                  generalize (trav s (V.take (k + 1 + 1)) : Int) = t1 at *
                  generalize (trav s (V.take (k + 1)) : Int) = t0 at *
                  have hk2 : (k : Int) + 1 < (p : Int) + 1 := by omega
                  have hk3 : (k : Int) < (p : Int) + 1 := by omega
                  have hk4 : (0 : Int) ≤ (k : Int) + 1 := by omega
                  go_wp2_with fail
                  go_quiet (fail)
                  go_wp2
                  go_roundw
                  case rel => exact ⟨k + 1, by omega, by go_num, HSR.out.on (belowN _ _), fun j => HCL.out j⟩
                  case measure => simp [intOf]; omega
                · obtain rfl : k = p := by omega
                  have d9 : decide ((k : Int) + 1 < ((k + 1 : Nat) : Int)) = false := decide_eq_false (by omega)
                  have d9b : decide ((k : Int) + 1 < (k : Int) + 1) = false := decide_eq_false (by omega)
                  clear hs8 hcl HS7
                  go_wp2_with fail
                  go_meet
                  case rel => exact HSR.out.bare
  case rest =>
    as_aux_lemma =>
      have HS := hid hcut
      clear hcut HV HGT HS6
      clear hVl hl hlc hd2
      go_wp2_with fail
      refine (drawRoundOrder_any l2 c2 a2 _ HS.out.draw).mono ?_
      rintro e w1 ⟨s, l, b, c, rfl, hl, _, hx, hb⟩
      have HS1 : Hid (S8 w [(b, l)] l2 c2 a2 w1) := (HS.out.on hb).add hx
      obtain ⟨V, hVl, TS, TI⟩ := round_tells s l (by omega)
      have HTS := hid TS
      have HTI := hid TI
      generalize goodT s l = ok at *
      clear hb hx TS TI HS
      go_wp2_with fail
      refine (HTI.out b c _ (HS1.out.i b l (by simp))).mono ?_
      rintro e w2 ⟨b2, d2, rfl, hx, hb⟩
      have HS2 : Hid (S8 w [(b2, V), (b, l)] l2 c2 a2 w2) := (HS1.out.on hb).add hx.is
      clear HS1 hb hx HTI
      go_wp2_with fail
      refine (HTS.out b c _ (HS2.out.i b l (by simp))).mono ?_
      rintro e w3 ⟨b3, d3, rfl, hx, hb⟩
      have HS3 : Hid (S8 w [(b3, V), (b2, V), (b, l)] l2 c2 a2 w3) := (HS2.out.on hb).add hx.is
      clear HS2 hb hx HTS
      go_wp2_with fail
      refine (drawWaitsOf_any l2 c2 a2 _ HS3.out.draw).mono ?_
      rintro e w4 ⟨s4, l4, b4, c4, rfl, hl4, hc4, hx, hb⟩
      have HS4 : Hid (S8 w [(b4, l4), (b3, V), (b2, V), (b, l)] l2 c2 a2 w4) := (HS3.out.on hb).add hx
      obtain ⟨U, hUl, _, TS, TI⟩ := wait_tells s4 l4 (by omega)
      have HTS : Hid (∀ v, Is v.heap.size b4 l4 v → Calls Try.prog 26 #[.int .i64 s4, .slice b4 l4.length c4] v (LOut U (goodT s4 l4) v)) := fun v hv => TS b4 c4 v hv hc4
      have HTI : Hid (∀ v, Is v.heap.size b4 l4 v → Calls Try.prog 21 #[.int .i64 s4, .slice b4 l4.length c4] v (LOut U (goodT s4 l4) v)) := fun v hv => TI b4 c4 v hv hc4
      generalize goodT s4 l4 = ok4 at *
      clear hb hx TS TI HS3 hc4
      go_wp2_with fail
      refine (HTI.out _ (HS4.out.i b4 l4 (by simp))).mono ?_
      rintro e w5 ⟨b5, d5, rfl, hx, hb⟩
      have HS5 : Hid (S8 w [(b5, U), (b4, l4), (b3, V), (b2, V), (b, l)] l2 c2 a2 w5) := (HS4.out.on hb).add hx.is
      clear HS4 hb hx HTI
      go_wp2_with fail
      refine (HTS.out _ (HS5.out.i b4 l4 (by simp))).mono ?_
      rintro e w6 ⟨b6, d6, rfl, hx, hb⟩
      have HS6 : Hid (S8 w [(b6, U), (b5, U), (b4, l4), (b3, V), (b2, V), (b, l)] l2 c2 a2 w6) := (HS5.out.on hb).add hx.is
      clear HS5 hb hx HTS
      go_wp2_with fail
      refine (sameInts_same b2 b3 d2 d3 V _ (by omega) (HS6.out.i b2 V (by simp)) (HS6.out.i b3 V (by simp))).mono ?_
      rintro e w7 ⟨rfl, hb⟩
      have HS7 := hid (HS6.out.on hb)
      clear HS6 hb
      go_wp2_with fail
      refine (sameInts_same b5 b6 d5 d6 U _ (by omega) (HS7.out.i b5 U (by simp)) (HS7.out.i b6 U (by simp))).mono ?_
      rintro e w8 ⟨rfl, hb⟩
      have HS8 := hid (HS7.out.on hb)
      clear HS7 hb
      go_wp2
      go_ret
      exact ⟨rfl, HS8.out.below⟩
set_option maxHeartbeats 400000 in
theorem waits_big (l1 c1 l2 c2 : Nat) (a1 a2 : Option Addr) (w : World) (h1 : l1 ≤ 4611686018427387903) (h2 : l2 ≤ 4611686018427387903) (h12 : ¬ l1 + l2 ≤ 1048576) :
    Calls Try.prog 4 #[.slice a1 l1 c1, .slice a2 l2 c2] w fun e w' => e = .returned (.bool true) ∧ Below w.heap.size w w' := by
  have hd : decide ((1048576 : Int) < (l1 : Int) + (l2 : Int)) = true := by simp; omega
  go_enter Try.func4, Try.ntmps4
  go_wp2_with fail
  go_ret
  exact ⟨rfl, Below.refl _ _⟩
end Go.Proofs.Ytpjmblhfahbopaa
