/- The model's delta. -/
import Derived.Test.YtfkcfachbfbmpaaTDa
namespace Go.Proofs.Ytfkcfachbfbmpaa
set_option maxRecDepth 100000
open Go Go.ChangeShapes Go.WideShapes Go.ChangeAt Go.RowKit
/-- where the first block is, -1 for none -/
def findV (old E : ByteArray) : Int := if findB old E < old.size / 4 then ((4 * findB old E : Nat) : Int) else -1
set_option maxHeartbeats 1000000 in
theorem sFind_any (old E : ByteArray) (w : World) (ho : old.size ≤ 120) : Calls Try.prog 55 #[.string old, .string E] w fun e w' => e = .returned (.int .i64 (findV old E)) ∧ w' = w := by
  have HC : Hid (∀ k, 4 * k + 4 ≤ old.size → ∀ v, Sem.run Try.prog (Instr.slice 9 (.string old) (some (.int .i64 ((4 * k : Nat) : Int))) (some (.int .i64 (((4 * k : Nat) : Int) + 4))) none) v = .ok (.string (blk old k)) v) := fun k hk v => cut_at old (4 * k) (4 * k + 4) _ _ rfl (by omega) (by omega) hk v
  have HY : Hid (∀ k, k < old.size / 4 → eqT (blk old k) E = true → (∀ j, j < k → eqT (blk old j) E = false) → findV old E = ((4 * k : Nat) : Int)) := fun k h1 h2 h3 => by
    have := findB_is old E k h1 h2 h3
    unfold findV
    rw [this, if_pos h1]
  have HN : Hid ((∀ j, j < old.size / 4 → eqT (blk old j) E = false) → findV old E = -1) := fun h => by
    have := findB_none old E h
    unfold findV
    rw [this, if_neg (by omega)]
  generalize findV old E = R at *
  go_enter Try.func55, Try.ntmps55
  go_wp2_with fail
  go_loop [5] (fun i => ∃ k : Nat, 4 * k ≤ old.size ∧ i = .int .i64 (4 * k : Nat) ∧ ∀ j, j < k → eqT (blk old j) E = false) (fun i => old.size - (intOf i).toNat)
  case atStart => exact ⟨0, Nat.zero_le _, rfl, fun _ h => absurd h (Nat.not_lt_zero _)⟩
  case round =>
    obtain ⟨k, hk, rfl, hall⟩ := hrel
    have HALL := hid hall
    clear hall
    by_cases hlt : 4 * k + 4 ≤ old.size
    · have hck := HC.out k hlt
      have hd : decide (((4 * k : Nat) : Int) + 4 ≤ (old.size : Int)) = true := decide_eq_true (by omega)
      cases he : eqT (blk old k) E
      · have HX : Hid (∀ j, j < k + 1 → eqT (blk old j) E = false) := fun j hj => by
          by_cases e : j = k
          · subst e; exact he
          · exact HALL.out j (by omega)
        unfold eqT at he
        generalize blk old k = B at *
        have HL4 := hid hlt
        have hq2 : 4 * k ≤ 120 := by omega
        generalize hq : 4 * k = q at *
        have HQ2 := hid hq
        clear hq hlt
        go_wp2_with fail
        go_round
        case rel => exact ⟨k + 1, by have := HQ2.out; have := HL4.out; omega, congrArg (Value.int .i64) (by have := HQ2.out; omega), HX.out⟩
        case measure => have := HL4.out; simp [intOf]; omega
      · have HR := hid (HY.out k (by omega) he HALL.out)
        unfold eqT at he
        generalize blk old k = B at *
        have hq2 : 4 * k ≤ 120 := by omega
        generalize 4 * k = q at *
        clear hlt
        go_wp2_with fail
        go_ret
        exact ⟨ret_in HR.out.symm, rfl⟩
    · have hd : decide (((4 * k : Nat) : Int) + 4 ≤ (old.size : Int)) = false := decide_eq_false (by omega)
      have HR := hid (HN.out (fun j hj => HALL.out j (by omega)))
      have hq2 : 4 * k ≤ 120 := by omega
      generalize 4 * k = q at *
      go_wp2_with fail
      go_ret
      exact ⟨ret_in HR.out.symm, rfl⟩
theorem wrap_nat (n : Nat) (h : n < 9223372036854775808) : IntKind.i64.wrap (n : Int) = (n : Int) := by
  simp [IntKind.wrap, IntKind.bits, IntKind.signed]; omega
theorem ext_app (s : ByteArray) (i j k : Nat) (h1 : i ≤ j) (h2 : j ≤ k) : s.extract i j ++ s.extract j k = s.extract i k := by
  rw [ByteArray.extract_append_extract, Nat.min_eq_left h1, Nat.max_eq_right h2]
theorem ext_nil (s : ByteArray) (i : Nat) : s.extract i i = ByteArray.empty := ba_zero (by rw [ByteArray.size_extract]; omega)
set_option maxHeartbeats 8000000 in
theorem sDelta_any (old s : ByteArray) (w : World) (ho : old.size ≤ 120) (hs : s.size ≤ 120) : Calls Try.prog 38 #[.string old, .string s] w fun e w' => ∃ v, e = .returned v ∧ GL KT w.heap.size v (dlt old s [] 0 0) w' ∧ Below w.heap.size w w' := by
  have HF := hid (fun E v => sFind_any old E v ho)
  generalize hD0 : dlt old s [] 0 0 = D at *
  have HD0 := hid hD0
  clear hD0
  go_enter Try.func38, Try.ntmps38
  go_wp2_with fail
  go_loopw [5, 6, 7] (fun o t v wr => ∃ (acc : List Pt) (told i : Nat) (X : ByteArray) (o1 : Value), told ≤ i ∧ i ≤ s.size ∧ o = o1 ∧ t = .string X ∧ v = .int .i64 i ∧ X = s.extract told i ∧ GL KT w.heap.size o1 acc wr ∧ dlt old s acc told i = D ∧ acc.length ≤ i ∧ Below w.heap.size w wr) (fun _ _ v _ => s.size - (intOf v).toNat)
  case atStart => exact ⟨[], 0, 0, _, _, Nat.le_refl _, Nat.zero_le _, rfl, rfl, rfl, (by rw [ext_nil]; rfl), GL.nil _ _ _, HD0.out, Nat.le_refl _, Below.refl _ _⟩
  case round =>
    obtain ⟨acc, told, i, X, _, htd, hi, rfl, rfl, rfl, hX, hown, hD, hla, hbel⟩ := hrel
    have HX := hid hX
    have HOWN := hid hown
    have HD := hid hD
    have HLA := hid hla
    have HBEL := hid hbel
    clear hX hown hD hla hbel
    by_cases hlt : i < s.size
    · have dlt0 : decide ((i : Int) < (s.size : Int)) = true := decide_eq_true (by omega)
      by_cases hi4 : i + 4 ≤ s.size
      · have d4 : decide ((i : Int) + 4 ≤ (s.size : Int)) = true := decide_eq_true (by omega)
        have hc4 := cut_at s i (i + 4) (i : Int) ((i : Int) + 4) rfl (by omega) (by omega) hi4
        have HFE := hid (HF.out (s.extract i (i + 4)))
        by_cases hf : findB old (s.extract i (i + 4)) < old.size / 4
        · have HHIT : Hid (∀ n, alk old (4 * findB old (s.extract i (i + 4))) s i = n → 1 ≤ n → dlt old s (acc ++ txtP s told i ++ [⟨((4 * findB old (s.extract i (i + 4)) : Nat) : Int), (n : Int), ByteArray.empty⟩]) (i + n) (i + n) = D) := fun n h1 h2 => by
            rw [← HD.out]
            exact (dlt_hit hi4 hf rfl h1 h2).symm
          have HFV : Hid (findV old (s.extract i (i + 4)) = ((4 * findB old (s.extract i (i + 4)) : Nat) : Int)) := by show _ = _; unfold findV; rw [if_pos hf]
          have hh := findB_hit old (s.extract i (i + 4)) hf
          have HEQ : Hid (∀ j (a : 4 * findB old (s.extract i (i + 4)) + j < old.size) (b : i + j < s.size), j < 4 → old[4 * findB old (s.extract i (i + 4)) + j] = s[i + j]) := fun j _ _ hj => blk_eq (by omega) hi4 hh j hj
          have HQ4 : Hid (4 * findB old (s.extract i (i + 4)) + 4 ≤ old.size) := by show _ ≤ _; omega
          rw [HFV.out] at HFE
          have hq120 : 4 * findB old (s.extract i (i + 4)) ≤ 120 := by omega
          clear hh HFV hf
          generalize 4 * findB old (s.extract i (i + 4)) = q at *
          generalize s.extract i (i + 4) = E4 at *
          have dq : decide ((q : Int) < 0) = false := decide_eq_false (by omega)
          by_cases ht : told < i
          · have hne := ba_some (D := X) (by rw [HX.out, ext_size _ _ _ htd (by omega)]; omega)
            have HTX : Hid (acc ++ txtP s told i = acc ++ [⟨0, 0, X⟩]) := by show _ = _; rw [txtP_some ht, HX.out]
            obtain ⟨v1, w1, r1, o1, g1⟩ := HOWN.out.pushT HBEL.out.size ⟨0, 0, X⟩ (by have := HLA.out; omega)
            have HO1 := hid o1
            have HB1 := hid (HBEL.out.trans g1)
            have HL2 : Hid ((acc ++ [⟨0, 0, X⟩] : List Pt).length ≤ i + 1) := by show _ ≤ _; simp only [List.length_append, List.length_cons, List.length_nil]; have := HLA.out; omega
            clear o1 g1
            go_wp2_with fail
            refine (HFE.out _).mono ?_
            rintro e w9 ⟨rfl, hw9⟩
            rw [hw9]
            clear hw9
            go_wp2_with (at_builtin; refine wpList_append_run rfl (.tmp 39) (.tmp 42) 25 rfl _ _ rfl rfl _ _ r1 ?_)
            go_wp2_with fail
            go_loopw [9] (fun v wr2 => ∃ n m : Nat, 4 ≤ n ∧ v = .int .i64 n ∧ q + n ≤ old.size ∧ i + n ≤ s.size ∧ (∀ j (a : q + j < old.size) (b : i + j < s.size), j < n → old[q + j] = s[i + j]) ∧ wr2 = w1.drewN m) (fun v _ => s.size - (intOf v).toNat)
            case atStart => exact ⟨4, 0, Nat.le_refl _, rfl, HQ4.out, hi4, HEQ.out, rfl⟩
            case round =>
              obtain ⟨n, m, hn4, rfl, hn1, hn2, hall, hwr⟩ := hrel
              have HALL := hid hall
              clear hall
              subst hwr
              by_cases ca : q + n < old.size
              · have da : decide ((q : Int) + (n : Int) < (old.size : Int)) = true := decide_eq_true (by omega)
                by_cases cb : i + n < s.size
                · have db : decide ((i : Int) + (n : Int) < (s.size : Int)) = true := decide_eq_true (by omega)
                  obtain ⟨qn, hqn⟩ : ∃ x, x = q + n := ⟨_, rfl⟩
                  obtain ⟨jn, hjn⟩ : ∃ x, x = i + n := ⟨_, rfl⟩
                  have ca2 : qn < old.size := by omega
                  have cb2 : jn < s.size := by omega
                  have ia : (q : Int) + (n : Int) = (qn : Int) := by omega
                  have ib : (i : Int) + (n : Int) = (jn : Int) := by omega
                  have iaw : IntKind.i64.wrap (qn : Int) = (qn : Int) := wrap_nat qn (by omega)
                  have ibw : IntKind.i64.wrap (jn : Int) = (jn : Int) := wrap_nat jn (by omega)
                  have ja : (qn : Int) < (old.size : Int) := by omega
                  have jb : (jn : Int) < (s.size : Int) := by omega
                  have da2 : decide ((qn : Int) < (old.size : Int)) = true := decide_eq_true ja
                  have db2 : decide ((jn : Int) < (s.size : Int)) = true := decide_eq_true jb
                  by_cases heq : old[qn] = s[jn]
                  · have HN : Hid (∀ j (a : q + j < old.size) (b : i + j < s.size), j < n + 1 → old[q + j] = s[i + j]) := fun j a b hj => by
                      by_cases e : j = n
                      · subst e
                        subst hqn hjn
                        exact heq
                      · exact HALL.out j a b (by omega)
                    have dc : ((old[qn].toNat : Int) == (s[jn].toNat : Int)) = true := by rw [heq]; exact beq_self_eq_true _
                    have HQN := hid hqn
                    have HJN := hid hjn
                    have HCC : Hid (q + n < old.size ∧ i + n < s.size) := ⟨ca, cb⟩
                    clear heq hqn hjn da db ca cb
                    go_wp2_with fail
                    go_quiet (fail)
                    go_wp2_with fail
                    go_roundw
                    case rel => exact ⟨n + 1, _, by omega, by go_num, by have := HCC.out.1; omega, by have := HCC.out.2; omega, HN.out, rfl⟩
                    case measure => have := HCC.out.2; simp [intOf]; omega
                  · have dc : ((old[qn].toNat : Int) == (s[jn].toNat : Int)) = false := beq_false_of_ne (fun e => heq (UInt8.toNat_inj.1 (by omega)))
                    have HNN := hid (alk_is (old := old) (s := s) (p := q) (q := i) (n := n) (by omega) (by omega) HALL.out (Or.inr (Or.inr ⟨ca, cb, by subst hqn hjn; exact heq⟩)))
                    have HQN := hid hqn
                    have HJN := hid hjn
                    clear heq hqn hjn da db
                    go_wp2_with fail
                    go_quiet (fail)
                    have gq : Below w1.heap.size w1 ((w1.drewN m).drewN nq) := by rw [World.drewN_drewN]; exact belowN _ _
                    generalize (w1.drewN m).drewN nq = WQ at *
                    have HBQ := hid (HB1.out.trans (gq.mono HB1.out.size))
                    obtain ⟨v3, w3, r3, o3, g3⟩ := (HO1.out.below gq).pushT HBQ.out.size ⟨(q : Int), (n : Int), ByteArray.empty⟩ (by have := HL2.out; omega)
                    have HO3 := hid o3
                    have HB3 := hid (HBQ.out.trans g3)
                    have HDN : Hid (dlt old s ((acc ++ [⟨0, 0, X⟩]) ++ [⟨(q : Int), (n : Int), ByteArray.empty⟩]) (i + n) (i + n) = D) := by
                      show _ = _
                      have := HHIT.out n HNN.out (by omega)
                      rw [← HTX.out]
                      exact this
                    clear o3 g3 gq
                    go_wp2_with (at_builtin; refine wpList_append_run rfl (.tmp 73) (.tmp 77) 25 rfl _ _ rfl rfl _ _ r3 ?_)
                    go_roundw
                    case rel => exact ⟨_, i + n, i + n, ByteArray.empty, _, Nat.le_refl _, by omega, rfl, rfl, by go_num, (by rw [ext_nil]), HO3.out, HDN.out, (by have h9 := HL2.out; (try simp only [List.length_append, List.length_cons, List.length_nil] at h9); simp only [List.length_append, List.length_cons, List.length_nil]; omega), HB3.out⟩
                    case measure => simp [intOf]; omega
                · have db : decide ((i : Int) + (n : Int) < (s.size : Int)) = false := decide_eq_false (by omega)
                  have HNN := hid (alk_is (old := old) (s := s) (p := q) (q := i) (n := n) (by omega) (by omega) HALL.out (Or.inr (Or.inl (by omega))))
                  go_wp2_with fail
                  go_quiet (fail)
                  have gq : Below w1.heap.size w1 ((w1.drewN m).drewN nq) := by rw [World.drewN_drewN]; exact belowN _ _
                  generalize (w1.drewN m).drewN nq = WQ at *
                  have HBQ := hid (HB1.out.trans (gq.mono HB1.out.size))
                  obtain ⟨v3, w3, r3, o3, g3⟩ := (HO1.out.below gq).pushT HBQ.out.size ⟨(q : Int), (n : Int), ByteArray.empty⟩ (by have := HL2.out; omega)
                  have HO3 := hid o3
                  have HB3 := hid (HBQ.out.trans g3)
                  have HDN : Hid (dlt old s ((acc ++ [⟨0, 0, X⟩]) ++ [⟨(q : Int), (n : Int), ByteArray.empty⟩]) (i + n) (i + n) = D) := by
                    show _ = _
                    have := HHIT.out n HNN.out (by omega)
                    rw [← HTX.out]
                    exact this
                  clear o3 g3 gq
                  go_wp2_with (at_builtin; refine wpList_append_run rfl (.tmp 73) (.tmp 77) 25 rfl _ _ rfl rfl _ _ r3 ?_)
                  go_roundw
                  case rel => exact ⟨_, i + n, i + n, ByteArray.empty, _, Nat.le_refl _, by omega, rfl, rfl, by go_num, (by rw [ext_nil]), HO3.out, HDN.out, (by have h9 := HL2.out; (try simp only [List.length_append, List.length_cons, List.length_nil] at h9); simp only [List.length_append, List.length_cons, List.length_nil]; omega), HB3.out⟩
                  case measure => simp [intOf]; omega
              · have da : decide ((q : Int) + (n : Int) < (old.size : Int)) = false := decide_eq_false (by omega)
                have HNN := hid (alk_is (old := old) (s := s) (p := q) (q := i) (n := n) (by omega) (by omega) HALL.out (Or.inl (by omega)))
                go_wp2_with fail
                go_quiet (fail)
                have gq : Below w1.heap.size w1 ((w1.drewN m).drewN nq) := by rw [World.drewN_drewN]; exact belowN _ _
                generalize (w1.drewN m).drewN nq = WQ at *
                have HBQ := hid (HB1.out.trans (gq.mono HB1.out.size))
                obtain ⟨v3, w3, r3, o3, g3⟩ := (HO1.out.below gq).pushT HBQ.out.size ⟨(q : Int), (n : Int), ByteArray.empty⟩ (by have := HL2.out; omega)
                have HO3 := hid o3
                have HB3 := hid (HBQ.out.trans g3)
                have HDN : Hid (dlt old s ((acc ++ [⟨0, 0, X⟩]) ++ [⟨(q : Int), (n : Int), ByteArray.empty⟩]) (i + n) (i + n) = D) := by
                  show _ = _
                  have := HHIT.out n HNN.out (by omega)
                  rw [← HTX.out]
                  exact this
                clear o3 g3 gq
                go_wp2_with (at_builtin; refine wpList_append_run rfl (.tmp 73) (.tmp 77) 25 rfl _ _ rfl rfl _ _ r3 ?_)
                go_roundw
                case rel => exact ⟨_, i + n, i + n, ByteArray.empty, _, Nat.le_refl _, by omega, rfl, rfl, by go_num, (by rw [ext_nil]), HO3.out, HDN.out, (by have h9 := HL2.out; (try simp only [List.length_append, List.length_cons, List.length_nil] at h9); simp only [List.length_append, List.length_cons, List.length_nil]; omega), HB3.out⟩
                case measure => simp [intOf]; omega
          · have hXe : X = ByteArray.empty := ba_zero (by rw [HX.out, ext_size _ _ _ htd (by omega)]; omega)
            have HTX : Hid (acc ++ txtP s told i = acc) := by show _ = _; rw [txtP_none ht, List.append_nil]
            have HL2 : Hid (acc.length ≤ i + 1) := by show _ ≤ _; have := HLA.out; omega
            subst hXe
            go_wp2_with fail
            refine (HFE.out _).mono ?_
            rintro e w9 ⟨rfl, hw9⟩
            rw [hw9]
            clear hw9
            go_wp2_with fail
            go_wp2_with fail
            go_loopw [9] (fun v wr2 => ∃ n m : Nat, 4 ≤ n ∧ v = .int .i64 n ∧ q + n ≤ old.size ∧ i + n ≤ s.size ∧ (∀ j (a : q + j < old.size) (b : i + j < s.size), j < n → old[q + j] = s[i + j]) ∧ wr2 = wr.drewN m) (fun v _ => s.size - (intOf v).toNat)
            case atStart => exact ⟨4, 0, Nat.le_refl _, rfl, HQ4.out, hi4, HEQ.out, rfl⟩
            case round =>
              obtain ⟨n, m, hn4, rfl, hn1, hn2, hall, hwr⟩ := hrel
              have HALL := hid hall
              clear hall
              subst hwr
              by_cases ca : q + n < old.size
              · have da : decide ((q : Int) + (n : Int) < (old.size : Int)) = true := decide_eq_true (by omega)
                by_cases cb : i + n < s.size
                · have db : decide ((i : Int) + (n : Int) < (s.size : Int)) = true := decide_eq_true (by omega)
                  obtain ⟨qn, hqn⟩ : ∃ x, x = q + n := ⟨_, rfl⟩
                  obtain ⟨jn, hjn⟩ : ∃ x, x = i + n := ⟨_, rfl⟩
                  have ca2 : qn < old.size := by omega
                  have cb2 : jn < s.size := by omega
                  have ia : (q : Int) + (n : Int) = (qn : Int) := by omega
                  have ib : (i : Int) + (n : Int) = (jn : Int) := by omega
                  have iaw : IntKind.i64.wrap (qn : Int) = (qn : Int) := wrap_nat qn (by omega)
                  have ibw : IntKind.i64.wrap (jn : Int) = (jn : Int) := wrap_nat jn (by omega)
                  have ja : (qn : Int) < (old.size : Int) := by omega
                  have jb : (jn : Int) < (s.size : Int) := by omega
                  have da2 : decide ((qn : Int) < (old.size : Int)) = true := decide_eq_true ja
                  have db2 : decide ((jn : Int) < (s.size : Int)) = true := decide_eq_true jb
                  by_cases heq : old[qn] = s[jn]
                  · have HN : Hid (∀ j (a : q + j < old.size) (b : i + j < s.size), j < n + 1 → old[q + j] = s[i + j]) := fun j a b hj => by
                      by_cases e : j = n
                      · subst e
                        subst hqn hjn
                        exact heq
                      · exact HALL.out j a b (by omega)
                    have dc : ((old[qn].toNat : Int) == (s[jn].toNat : Int)) = true := by rw [heq]; exact beq_self_eq_true _
                    have HQN := hid hqn
                    have HJN := hid hjn
                    have HCC : Hid (q + n < old.size ∧ i + n < s.size) := ⟨ca, cb⟩
                    clear heq hqn hjn da db ca cb
                    go_wp2_with fail
                    go_quiet (fail)
                    go_wp2_with fail
                    go_roundw
                    case rel => exact ⟨n + 1, _, by omega, by go_num, by have := HCC.out.1; omega, by have := HCC.out.2; omega, HN.out, rfl⟩
                    case measure => have := HCC.out.2; simp [intOf]; omega
                  · have dc : ((old[qn].toNat : Int) == (s[jn].toNat : Int)) = false := beq_false_of_ne (fun e => heq (UInt8.toNat_inj.1 (by omega)))
                    have HNN := hid (alk_is (old := old) (s := s) (p := q) (q := i) (n := n) (by omega) (by omega) HALL.out (Or.inr (Or.inr ⟨ca, cb, by subst hqn hjn; exact heq⟩)))
                    have HQN := hid hqn
                    have HJN := hid hjn
                    clear heq hqn hjn da db
                    go_wp2_with fail
                    go_quiet (fail)
                    have gq : Below wr.heap.size wr ((wr.drewN m).drewN nq) := by rw [World.drewN_drewN]; exact belowN _ _
                    generalize (wr.drewN m).drewN nq = WQ at *
                    have HBQ := hid (HBEL.out.trans (gq.mono HBEL.out.size))
                    obtain ⟨v3, w3, r3, o3, g3⟩ := (HOWN.out.below gq).pushT HBQ.out.size ⟨(q : Int), (n : Int), ByteArray.empty⟩ (by have := HL2.out; omega)
                    have HO3 := hid o3
                    have HB3 := hid (HBQ.out.trans g3)
                    have HDN : Hid (dlt old s (acc ++ [⟨(q : Int), (n : Int), ByteArray.empty⟩]) (i + n) (i + n) = D) := by
                      show _ = _
                      have := HHIT.out n HNN.out (by omega)
                      rw [← HTX.out]
                      exact this
                    clear o3 g3 gq
                    go_wp2_with (at_builtin; refine wpList_append_run rfl (.tmp 73) (.tmp 77) 25 rfl _ _ rfl rfl _ _ r3 ?_)
                    go_roundw
                    case rel => exact ⟨_, i + n, i + n, ByteArray.empty, _, Nat.le_refl _, by omega, rfl, rfl, by go_num, (by rw [ext_nil]), HO3.out, HDN.out, (by have h9 := HL2.out; (try simp only [List.length_append, List.length_cons, List.length_nil] at h9); simp only [List.length_append, List.length_cons, List.length_nil]; omega), HB3.out⟩
                    case measure => simp [intOf]; omega
                · have db : decide ((i : Int) + (n : Int) < (s.size : Int)) = false := decide_eq_false (by omega)
                  have HNN := hid (alk_is (old := old) (s := s) (p := q) (q := i) (n := n) (by omega) (by omega) HALL.out (Or.inr (Or.inl (by omega))))
                  go_wp2_with fail
                  go_quiet (fail)
                  have gq : Below wr.heap.size wr ((wr.drewN m).drewN nq) := by rw [World.drewN_drewN]; exact belowN _ _
                  generalize (wr.drewN m).drewN nq = WQ at *
                  have HBQ := hid (HBEL.out.trans (gq.mono HBEL.out.size))
                  obtain ⟨v3, w3, r3, o3, g3⟩ := (HOWN.out.below gq).pushT HBQ.out.size ⟨(q : Int), (n : Int), ByteArray.empty⟩ (by have := HL2.out; omega)
                  have HO3 := hid o3
                  have HB3 := hid (HBQ.out.trans g3)
                  have HDN : Hid (dlt old s (acc ++ [⟨(q : Int), (n : Int), ByteArray.empty⟩]) (i + n) (i + n) = D) := by
                    show _ = _
                    have := HHIT.out n HNN.out (by omega)
                    rw [← HTX.out]
                    exact this
                  clear o3 g3 gq
                  go_wp2_with (at_builtin; refine wpList_append_run rfl (.tmp 73) (.tmp 77) 25 rfl _ _ rfl rfl _ _ r3 ?_)
                  go_roundw
                  case rel => exact ⟨_, i + n, i + n, ByteArray.empty, _, Nat.le_refl _, by omega, rfl, rfl, by go_num, (by rw [ext_nil]), HO3.out, HDN.out, (by have h9 := HL2.out; (try simp only [List.length_append, List.length_cons, List.length_nil] at h9); simp only [List.length_append, List.length_cons, List.length_nil]; omega), HB3.out⟩
                  case measure => simp [intOf]; omega
              · have da : decide ((q : Int) + (n : Int) < (old.size : Int)) = false := decide_eq_false (by omega)
                have HNN := hid (alk_is (old := old) (s := s) (p := q) (q := i) (n := n) (by omega) (by omega) HALL.out (Or.inl (by omega)))
                go_wp2_with fail
                go_quiet (fail)
                have gq : Below wr.heap.size wr ((wr.drewN m).drewN nq) := by rw [World.drewN_drewN]; exact belowN _ _
                generalize (wr.drewN m).drewN nq = WQ at *
                have HBQ := hid (HBEL.out.trans (gq.mono HBEL.out.size))
                obtain ⟨v3, w3, r3, o3, g3⟩ := (HOWN.out.below gq).pushT HBQ.out.size ⟨(q : Int), (n : Int), ByteArray.empty⟩ (by have := HL2.out; omega)
                have HO3 := hid o3
                have HB3 := hid (HBQ.out.trans g3)
                have HDN : Hid (dlt old s (acc ++ [⟨(q : Int), (n : Int), ByteArray.empty⟩]) (i + n) (i + n) = D) := by
                  show _ = _
                  have := HHIT.out n HNN.out (by omega)
                  rw [← HTX.out]
                  exact this
                clear o3 g3 gq
                go_wp2_with (at_builtin; refine wpList_append_run rfl (.tmp 73) (.tmp 77) 25 rfl _ _ rfl rfl _ _ r3 ?_)
                go_roundw
                case rel => exact ⟨_, i + n, i + n, ByteArray.empty, _, Nat.le_refl _, by omega, rfl, rfl, by go_num, (by rw [ext_nil]), HO3.out, HDN.out, (by have h9 := HL2.out; (try simp only [List.length_append, List.length_cons, List.length_nil] at h9); simp only [List.length_append, List.length_cons, List.length_nil]; omega), HB3.out⟩
                case measure => simp [intOf]; omega
        · have HM := hid (dlt_miss (acc := acc) (told := told) hi4 (show findB old (s.extract i (i + 4)) = old.size / 4 by have := findB_le old (s.extract i (i + 4)); omega))
          have HFV : Hid (findV old (s.extract i (i + 4)) = -1) := by show _ = _; unfold findV; rw [if_neg hf]
          rw [HFV.out] at HFE
          clear hf HFV
          generalize s.extract i (i + 4) = E4 at *
          have HX2 : Hid (X ++ s.extract i (i + 1) = s.extract told (i + 1)) := by show _ = _; rw [HX.out]; exact ext_app s told i (i + 1) htd (Nat.le_succ _)
          have hc1 := cut_at s i (i + 1) (i : Int) ((i : Int) + 1) rfl (by omega) (by omega) (by omega)
          have he1 : (s.extract i (i + 1)).size ≤ 120 := by rw [ext_size _ _ _ (by omega) (by omega)]; omega
          have hxs : X.size ≤ 120 := by rw [HX.out, ext_size _ _ _ htd (by omega)]; omega
          generalize s.extract i (i + 1) = C1 at *
          go_wp2_with fail
          refine (HFE.out _).mono ?_
          rintro e w9 ⟨rfl, hw9⟩
          rw [hw9]
          clear hw9
          go_wp2_with fail
          go_roundw
          case rel => exact ⟨acc, told, i + 1, X ++ C1, _, by omega, by omega, rfl, rfl, by go_num, HX2.out, HOWN.out, by rw [← HD.out]; exact HM.out.symm, by have := HLA.out; omega, HBEL.out⟩
          case measure => simp [intOf]; omega
      · have d4 : decide ((i : Int) + 4 ≤ (s.size : Int)) = false := decide_eq_false (by omega)
        have HM : Hid (dlt old s acc told i = dlt old s acc told (i + 1)) := by show _ = _; rw [dlt_end hi4, dlt_end (by omega)]
        have HX2 : Hid (X ++ s.extract i (i + 1) = s.extract told (i + 1)) := by show _ = _; rw [HX.out]; exact ext_app s told i (i + 1) htd (Nat.le_succ _)
        have hc1 := cut_at s i (i + 1) (i : Int) ((i : Int) + 1) rfl (by omega) (by omega) (by omega)
        have he1 : (s.extract i (i + 1)).size ≤ 120 := by rw [ext_size _ _ _ (by omega) (by omega)]; omega
        have hxs : X.size ≤ 120 := by rw [HX.out, ext_size _ _ _ htd (by omega)]; omega
        generalize s.extract i (i + 1) = C1 at *
        go_wp2_with fail
        go_roundw
        case rel => exact ⟨acc, told, i + 1, X ++ C1, _, by omega, by omega, rfl, rfl, by go_num, HX2.out, HOWN.out, by rw [← HD.out]; exact HM.out.symm, by have := HLA.out; omega, HBEL.out⟩
        case measure => simp [intOf]; omega
    · obtain rfl : i = s.size := by omega
      have dlt0 : decide ((s.size : Int) < (s.size : Int)) = false := decide_eq_false (by omega)
      have HE : Hid (acc ++ txtP s told s.size = D) := by show _ = _; rw [← HD.out, dlt_end (by omega)]
      by_cases ht : told < s.size
      · have hne := ba_some (D := X) (by rw [HX.out, ext_size _ _ _ htd (by omega)]; omega)
        have HTX : Hid (acc ++ [⟨0, 0, X⟩] = D) := by show _ = _; rw [← HE.out, txtP_some ht, HX.out]
        obtain ⟨v1, w1, r1, o1, g1⟩ := HOWN.out.pushT HBEL.out.size ⟨0, 0, X⟩ (by have := HLA.out; omega)
        rw [HTX.out] at o1
        have HO1 := hid o1
        have HB1 := hid (HBEL.out.trans g1)
        clear o1 g1
        go_wp2_with (at_builtin; refine wpList_append_run rfl (.tmp 84) (.tmp 87) 25 rfl _ _ rfl rfl _ _ r1 ?_)
        go_ret
        exact ⟨_, rfl, HO1.out, HB1.out⟩
      · have hXe : X = ByteArray.empty := ba_zero (by rw [HX.out, ext_size _ _ _ htd (by omega)]; omega)
        rw [txtP_none ht, List.append_nil] at HE
        rw [HE.out] at HOWN
        subst hXe
        go_wp2_with fail
        go_ret
        exact ⟨_, rfl, HOWN.out, HBEL.out⟩
end Go.Proofs.Ytfkcfachbfbmpaa
