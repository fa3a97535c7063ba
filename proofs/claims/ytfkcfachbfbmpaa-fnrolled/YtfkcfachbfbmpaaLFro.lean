/- The law on sums that roll along: its walk out of the contracts. -/
import Derived.Test.YtfkcfachbfbmpaaTSm
import Derived.Deep.DeepCutAuto
import Derived.Deep.RegionHeldLaw
import Derived.Deep.QuietTactic
import Derived.BigQuiet
namespace Go.Proofs.Ytfkcfachbfbmpaa
set_option maxRecDepth 100000
open Go Go.ChangeShapes Go.WideShapes Go.ChangeAt Go.RowKit
set_option maxHeartbeats 4000000 in
theorem rolled_small (l1 c1 l2 c2 : Nat) (a1 a2 : Option Addr) (w : World) (h12 : l1 + l2 ≤ 1048576) (hK1 : Code w.heap.size l1 c1 a1 w) (hK2 : Code w.heap.size l2 c2 a2 w) :
    Calls Try.prog 4 #[.slice a1 l1 c1, .slice a2 l2 c2] w fun e w' => e = .returned (.bool true) ∧ Below w.heap.size w w' := by
  have hd : decide ((1048576 : Int) < (l1 : Int) + (l2 : Int)) = false := by simp; omega
  have HK1 := hid hK1
  have HS : Hid (S11 w [] [] l2 c2 a2 w) := ⟨Below.refl _ _, hK2, (fun _ h => by cases h), (fun _ h => by cases h)⟩
  clear hK1 hK2
  go_enter Try.func4, Try.ntmps4
  go_wp2_with fail
  refine (drawRoll_any l1 c1 a1 _ HK1.out).mono ?_
  rintro e w1 ⟨s, rfl, hs, hb⟩
  have HS1 := hid (HS.out.on hb)
  clear HS HK1 hb
  have HRI := hid (iRollOf_any s)
  have HRS := hid (sRollOf_any s)
  have HBI := hid (iBlock_any s)
  have HBS := hid (sBlock_any s)
  have HV : Hid (s.size ≤ 120 → rollV s = rollT s ∧ (sumsV s).length = s.size / 4) := fun h => ⟨by unfold rollV; rw [decide_eq_true h]; rfl, by rw [sumsV_yes h, sumsT_len]⟩
  have hVl : (sumsV s).length ≤ 1048576 := by
    by_cases h : s.size ≤ 120
    · rw [sumsV_yes h, sumsT_len]; omega
    · rw [sumsV_no h]; exact Nat.zero_le _
  have HOK : Hid (decide (s.size ≤ 120) = true → s.size ≤ 120) := fun h => of_decide_eq_true h
  generalize sumsV s = V at *
  generalize rollV s = r at *
  generalize decide (s.size ≤ 120) = ok at *
  have hbk : (ok != ok) = false := by cases ok <;> rfl
  go_wp2_with fail
  refine (HRI.out _).mono ?_
  rintro e w2 ⟨rfl, hb⟩
  have HS2 := hid (HS1.out.on hb)
  clear HS1 hb HRI
  go_wp2_with fail
  refine (HRS.out _).mono ?_
  rintro e w9 ⟨rfl, hw9⟩
  rw [hw9]
  clear hw9 HRS
  go_wp2_with fail
  refine (HBI.out _).mono ?_
  rintro e w3 ⟨b3, d3, rfl, hx, hb⟩
  have HS3 : Hid (S11 w [(b3, V)] [] l2 c2 a2 w3) := (HS2.out.on hb).add hx.is
  clear HS2 hb hx HBI
  go_wp2_with fail
  refine (HBS.out _).mono ?_
  rintro e w4 ⟨b4, d4, rfl, hx, hb⟩
  have HS4 : Hid (S11 w [(b4, V), (b3, V)] [] l2 c2 a2 w4) := (HS3.out.on hb).add hx.is
  clear HS3 hb hx HBS
  go_wp2_with fail
  refine (sameInts_same b3 b4 d3 d4 V _ hVl (HS4.out.i b3 V (by simp)) (HS4.out.i b4 V (by simp))).mono ?_
  rintro e w5 ⟨rfl, hb⟩
  have HS5 := hid (HS4.out.on hb).bare
  clear HS4 hb
  go_upto_region 10 with fail
  go_cut [82] (fun s82 wc => s82 = .bool (decide (ok = true ∧ 1 < s.size)) ∧ wc = w5)
  case first =>
    as_aux_lemma =>
      cases ok
      · go_wp2_with fail
        go_meet
        case rel => exact ⟨by simp, rfl⟩
      · by_cases h0 : 1 < s.size
        · have hd0 : decide ((1 : Int) < (s.size : Int)) = true := decide_eq_true (by omega)
          go_wp2_with fail
          go_meet
          case rel => exact ⟨by simp; omega, rfl⟩
        · have hd0 : decide ((1 : Int) < (s.size : Int)) = false := decide_eq_false (by omega)
          go_wp2_with fail
          go_meet
          case rel => exact ⟨by simp; omega, rfl⟩
  case rest =>
    as_aux_lemma =>
      obtain ⟨rfl, hw5⟩ := hcut
      subst hw5
      go_upto_if 82 with fail
      go_cut [14, 15, 16, 17, 18, 19, 20, 21] (fun _ _ _ _ _ _ _ _ wd => S11 w [] [] l2 c2 a2 wd)
      case first =>
        as_aux_lemma =>
          by_cases h : ok = true ∧ 1 < s.size
          case neg =>
            have hdc : decide (ok = true ∧ 1 < s.size) = false := decide_eq_false h
            rw [hdc]
            clear hdc h
            go_wp2_with fail
            go_meet
            case rel => exact HS5.out
          have hdc : decide (ok = true ∧ 1 < s.size) = true := decide_eq_true h
          rw [hdc]
          clear hdc
          obtain ⟨rfl, h1⟩ := h
          have h120 := HOK.out rfl
          have hlq : ((V.length : Int) != (s.size : Int) / 4) = false := by rw [(HV.out h120).2]; simp
          go_wp2_with fail
          refine (numberOf_any _ _ _ _ HS5.out.draw).mono ?_
          rintro e w9 ⟨n, rfl, n0, n1, hw9⟩
          rw [hw9]
          clear hw9
          obtain ⟨m, hm⟩ : ∃ m : Nat, n % ((s.size : Int) - 1) = (m : Int) - 1 := ⟨(n % ((s.size : Int) - 1) + 1).toNat, by have := Int.emod_nonneg n (show (s.size : Int) - 1 ≠ 0 by omega); omega⟩
          have hm1 : 1 ≤ m := by have := Int.emod_nonneg n (show (s.size : Int) - 1 ≠ 0 by omega); omega
          have hm2 : m < s.size := by have := Int.emod_lt_of_pos n (show 0 < (s.size : Int) - 1 by omega); omega
          have hmv : (1 : Int) + ((m : Int) - 1) = (m : Int) := by omega
          have hct := cut_to s m (m : Int) rfl (by omega)
          have HRM : Hid (∀ k, k + m ≤ s.size → ∀ v, Calls Try.prog 21 #[.string (s.extract k (k + m))] v fun e w' => e = .returned (.tuple #[.int .i64 (rollT (s.extract k (k + m)) : Nat), .bool true]) ∧ Below v.heap.size v w') := fun k hk v => by
            have hz := ext_size s k (k + m) (by omega) hk
            have := iRollOf_any (s.extract k (k + m)) v
            have e1 : rollV (s.extract k (k + m)) = rollT (s.extract k (k + m)) := by unfold rollV; rw [decide_eq_true (by omega)]; rfl
            rw [e1, decide_eq_true (by omega)] at this
            exact this
          have HR0 := hid (HRM.out 0 (by omega))
          rw [Nat.zero_add] at HR0
          have hds : decide ((s.size : Int) - 1 = 0) = false := decide_eq_false (by omega)
          have HX0 : Hid (rollT (s.extract 0 m) = rollT (s.extract 0 (0 + m))) := by rw [Nat.zero_add]; rfl
          generalize hE : s.extract 0 m = E at *
          clear hE
          go_wp2_with fail
          refine (HR0.out _).mono ?_
          rintro e w6 ⟨rfl, hb⟩
          have HS6 := hid (HS5.out.on hb)
          clear hb HR0
          rw [HX0.out]
          have HLQ := hid hlq
          clear n0 n1 hm hmv hct hds hlq
          go_wp2_with fail
          go_loopw [15, 17, 18, 19, 20, 21] (fun t v _ _ _ _ wr => ∃ k p : Nat, k = p + 1 ∧ k + m ≤ s.size + 1 ∧ v = .int .i64 k ∧ t = .int .i64 (rollT (s.extract p (p + m)) : Nat) ∧ S11 w [] [] l2 c2 a2 wr) (fun _ v _ _ _ _ _ => s.size + 1 - (ivl v).toNat)
          case atStart => exact ⟨1, 0, rfl, by omega, rfl, by rw [Nat.zero_add], HS6.out⟩
          case round =>
            clear HS6
            obtain ⟨k, p, hkp, hkm, rfl, rfl, hs⟩ := hrel
            have HS := hid hs
            clear hs
            by_cases hlt : k + m ≤ s.size
            · have dl : decide ((k : Int) + (m : Int) ≤ (s.size : Int)) = true := decide_eq_true (by omega)
              obtain ⟨q, hq⟩ : ∃ q, q = p + m := ⟨_, rfl⟩
              have hps : p < s.size := by omega
              have hqs : q < s.size := by omega
              obtain ⟨f1, f2⟩ := roll_next s p m hm1 (by omega) (by omega) hps
              have HON : Hid (∀ v, Calls Try.prog 27 #[.int .i64 (rollT (s.extract p (p + m)) : Nat), .int .u8 s[p].toNat, .int .u8 s[q].toNat, .int .i64 m] v fun e w' => e = .returned (.tuple #[.int .i64 (rollT (s.extract (p + 1) (p + 1 + m)) : Nat), .bool true]) ∧ Below v.heap.size v w') := fun v => by
                have h9 : rollT (s.extract p (p + m)) < 65536 := rollN_lt _
                have := iRollOn_any ((rollT (s.extract p (p + m)) : Nat) : Int) s[p].toNat s[p + m].toNat m v (by unfold fit; omega) s[p].toNat_lt s[p + m].toNat_lt
                rw [f1, f2] at this
                subst hq
                exact this
              have HR1 : Hid (∀ v, Calls Try.prog 21 #[.string (s.extract (p + 1) (p + 1 + m))] v fun e w' => e = .returned (.tuple #[.int .i64 (rollT (s.extract (p + 1) (p + 1 + m)) : Nat), .bool true]) ∧ Below v.heap.size v w') := fun v => HRM.out (p + 1) (by omega) v
              have hcm := cut_at s (p + 1) (p + 1 + m) (k : Int) ((k : Int) + (m : Int)) (by omega) (by omega) (by omega) (by omega)
              have HX1 := hid hkp
              have e1 : (k : Int) - 1 = (p : Int) := by omega
              have e1w : IntKind.i64.wrap (p : Int) = (p : Int) := wrap_nat p (by omega)
              obtain ⟨km, hkm2⟩ : ∃ x, x = k + m := ⟨_, rfl⟩
              have e2 : (k : Int) + (m : Int) = (km : Int) := by omega
              have e2w : IntKind.i64.wrap (km : Int) = (km : Int) := wrap_nat km (by omega)
              have e3 : (km : Int) - 1 = (q : Int) := by omega
              have e3w : IntKind.i64.wrap (q : Int) = (q : Int) := wrap_nat q (by omega)
              have i1 : (p : Int) < (s.size : Int) := by omega
              have i2 : (q : Int) < (s.size : Int) := by omega
              have i3 : decide ((km : Int) ≤ (s.size : Int)) = true := decide_eq_true (by omega)
              rw [e2] at hcm
              have HHH := hid (And.intro hkp (And.intro hkm hlt))
              generalize hE1 : s.extract (p + 1) (p + 1 + m) = E1 at *
              have HE1 := hid hE1
              generalize s.extract p (p + m) = E0 at *
              clear dl f1 f2 hq hkm2 hkp hkm hlt hE1
              go_wp2_with fail
              go_region_held_law (fun _ => True) (first | exact trivial) (first | (go_at_call 27; refine (HON.out _).mono ?_; rintro e w7 ⟨rfl, hb⟩))
              all_goals
                have HS7 := hid (HS.out.on (show Below wr.heap.size wr w7 from ⟨hb.os, hb.tape, hb.output, hb.size, hb.block⟩))
                clear hb HS HON
                go_wp2_with fail
                refine (HR1.out _).mono ?_
                rintro e w8 ⟨rfl, hb⟩
                have HS8 := hid (HS7.out.on hb)
                clear hb HS7 HR1
                go_wp2_with fail
                go_roundw
                · exact ⟨k + 1, p + 1, by have := HHH.out.1; omega, by have := HHH.out.2.2; omega, by go_num, by rw [HE1.out], HS8.out⟩
                · have := HHH.out.2.2; simp [ivl]; omega
            · have dl : decide ((k : Int) + (m : Int) ≤ (s.size : Int)) = false := decide_eq_false (by omega)
              have hlq := HLQ.out
              have hk9 : k ≤ 122 := by omega
              go_wp2_with fail
              go_meet
              case rel => exact HS.out
      case rest =>
        as_aux_lemma =>
          have HS := hid hcut
          clear hcut HS5 hVl hs HV HOK
          go_wp2_with fail
          refine (drawOn_any l2 c2 a2 _ HS.out.draw).mono ?_
          rintro e w1 ⟨x, o, i, n, rfl, hx, ho, hi, hb⟩
          have HS1 := hid (HS.out.on hb)
          have HI := hid (fun v => iRollOn_any x o i n v hx ho hi)
          have HT := hid (fun v => sRollOn_any x o i n v hx ho hi)
          generalize onV x o i n = rv at *
          generalize onOk x n = ro at *
          clear hb HS
          go_wp2_with fail
          refine (HI.out _).mono ?_
          rintro e w2 ⟨rfl, hb⟩
          have HS2 := hid (HS1.out.on hb)
          clear HS1 hb HI
          go_wp2_with fail
          refine (HT.out _).mono ?_
          rintro e w9 ⟨rfl, hw9⟩
          rw [hw9]
          clear hw9
          go_wp2
          go_ret
          exact ⟨rfl, HS2.out.below⟩
set_option maxHeartbeats 400000 in
theorem rolled_big (l1 c1 l2 c2 : Nat) (a1 a2 : Option Addr) (w : World) (h1 : l1 ≤ 4611686018427387903) (h2 : l2 ≤ 4611686018427387903) (h12 : ¬ l1 + l2 ≤ 1048576) :
    Calls Try.prog 4 #[.slice a1 l1 c1, .slice a2 l2 c2] w fun e w' => e = .returned (.bool true) ∧ Below w.heap.size w w' := by
  have hd : decide ((1048576 : Int) < (l1 : Int) + (l2 : Int)) = true := by simp; omega
  go_enter Try.func4, Try.ntmps4
  go_wp2_with fail
  go_ret
  exact ⟨rfl, Below.refl _ _⟩
end Go.Proofs.Ytfkcfachbfbmpaa
