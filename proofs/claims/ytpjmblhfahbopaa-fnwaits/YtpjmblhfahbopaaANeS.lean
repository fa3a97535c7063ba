/- NearestOrder: the model. -/
import Derived.Test.YtpjmblhfahbopaaANeI
namespace Go.Proofs.Ytpjmblhfahbopaa
set_option maxRecDepth 100000
open Go Go.ChangeShapes Go.WideShapes Go.ChangeAt Go.RowKit
set_option maxHeartbeats 1000000 in
theorem sno_no (s : Int) (a : Option Addr) (cap : Nat) (l : List Int) (w : World) (hn : l.length ≤ 1048576) (hZ : Is w.heap.size a l w) (hg : goodT s l = false) :
    Calls Try.prog 17 #[.int .i64 s, .slice a l.length cap] w (LOut [] false w) := by
  have HG := hid (l8Good_any s a cap l w hn hZ)
  rw [hg] at HG
  go_enter Try.func17, Try.ntmps17
  go_wp2_with fail
  refine HG.out.mono ?_
  rintro e w2 ⟨rfl, hw2⟩
  rw [hw2]
  clear hw2
  go_wp2
  go_ret2
  exact LOut.no (Below.refl _ _)
set_option maxHeartbeats 1500000 in
theorem sno_yes (s : Int) (a : Option Addr) (cap : Nat) (l V : List Int) (w : World) (hn : l.length ≤ 1048576) (hZ : Is w.heap.size a l w) (hg : goodT s l = true) (hV : NearOrd s l V) :
    Calls Try.prog 17 #[.int .i64 s, .slice a l.length cap] w (LOut V true w) := by
  have hp := goodT_parts hg
  have h8 := goodA_len hp.2
  have HG := hid (l8Good_any s a cap l w hn hZ)
  rw [hg] at HG
  have HM := hid (goodA_mem hp.2)
  have HS := hid hp.1
  have HV := hid hV
  have HNS : Hid (NSt s l [] s l) := NSt.start (List.Perm.refl _) (fun o h => h)
  have hW0 := boxB w (.cells #[] 3)
  obtain ⟨v0, w0, r0, o0, g0, -⟩ := (AL.lit w).app hW0.size a cap l ((hZ.below hW0).mono hW0.size) (by simp; omega)
  rw [List.nil_append] at o0
  have HA2 : Hid (AL2 w.heap.size v0 l (.slice none 0 0) [] w0) := ⟨o0, AL.nil _ _, fun b _ h => by cases h⟩
  have HB1 : Hid (Below w.heap.size w w0) := hW0.trans g0
  clear hg hZ hp hV hW0 o0 g0
  go_enter Try.func17, Try.ntmps17
  go_wp2_with fail
  refine HG.out.mono ?_
  rintro e w2 ⟨rfl, hw2⟩
  rw [hw2]
  clear hw2 HG
  go_wp2_with (at_builtin; refine wpList_append_run rfl (.tmp 18) (.tmp 19) 23 rfl _ _ rfl rfl _ _ r0 ?_)
  go_loopw [0, 6, 7] (fun m q o wr => ∃ (R d : List Int) (n : Int) (q1 o1 : Value), q = q1 ∧ m = .int .i64 n ∧ o = o1 ∧ AL2 w.heap.size q1 R o1 d wr ∧ NSt s l d n R ∧ Below w.heap.size w wr) (fun _ q _ _ => lenV q)
  case atStart => exact ⟨l, [], s, _, _, rfl, rfl, rfl, HA2.out, HNS.out, HB1.out⟩
  case round =>
    obtain ⟨R, d, n, _, _, rfl, rfl, rfl, ha2, hns, hbel⟩ := hrel
    clear HA2 HNS HB1 r0
    have HA := hid ha2
    have HN := hid hns
    have HB := hid hbel
    have hlen := hns.len
    by_cases h0 : 0 < R.length
    · obtain ⟨B, c, rfl, hcc, hB⟩ := ha2.form h0
      have hd : decide ((0 : Int) < (R.length : Int)) = true := decide_eq_true (by omega)
      have hm : 0 ≤ n ∧ n ≤ 200 := by
        rcases hns.armIn with e | e
        · rw [e]; exact HS.out
        · exact HM.out _ e
      have HRM : Hid (∀ x ∈ R, (0 : Int) ≤ x ∧ x ≤ 200) := fun x hx => HM.out x (hns.mem x hx)
      have hR8 : R.length ≤ 8 := by omega
      have hd8 : d.length ≤ 8 := by omega
      have hszr := hbel.size
      have HBS := hid (NBst.start (arm := n) h0)
      have HC : Hid (∀ i (hi : i < R.length), wr.cell? ⟨B, i, none⟩ = some (.int .i64 R[i])) := fun i hi => by
        obtain ⟨B', off', e', hb', hc'⟩ := (is_of ha2.left).cell h0
        injection e' with e'; injection e' with e1 e2 _
        subst e1; subst e2
        have := hc' i hi
        rwa [Nat.zero_add] at this
      have HWY : Hid (∀ (x : Int), 0 ≤ x ∧ x ≤ 200 → Calls Try.prog 41 #[.int .i64 n, .int .i64 x] wr fun e w' => e = .returned (.int .i64 (stepN n x : Int)) ∧ w' = wr) := fun x h => l8Way_any n x wr hm h
      clear ha2 hns hbel hlen hm
      go_wp2_with fail
      go_loopw [8, 26] (fun q i wr2 => ∃ (j k : Nat), j ≤ R.length ∧ i = .int .i64 j ∧ q = .int .i64 k ∧ NBst n R j k ∧ wr2 = wr) (fun _ i _ => R.length - (intOf i).toNat)
      case atStart => exact ⟨0, 0, Nat.zero_le _, rfl, rfl, HBS.out, rfl⟩
      case round =>
        obtain ⟨j, k, hj, rfl, rfl, hf, hwr⟩ := hrel
        rw [hwr]
        clear hwr HBS
        have HF := hid hf
        by_cases hlt : j < R.length
        · have hkl := hf.lt
          have x0 := HC.out j hlt
          have y0 := HC.out k hkl
          have hx := HRM.out R[j] (List.getElem_mem hlt)
          have hy := HRM.out R[k] (List.getElem_mem hkl)
          have W1 := hid (HWY.out R[j] hx)
          have W2 := hid (HWY.out R[k] hy)
          have HD0 : Hid (¬ (stepN n R[j] < stepN n R[k] ∨ (stepN n R[j] = stepN n R[k] ∧ R[j] < R[k])) → NBst n R (j + 1) k) := fun h => hf.stay hlt h
          have HD1 : Hid ((stepN n R[j] < stepN n R[k] ∨ (stepN n R[j] = stepN n R[k] ∧ R[j] < R[k])) → NBst n R (j + 1) j) := fun h => hf.move hlt h
          clear hf hx hy
          generalize R[j] = x at *
          generalize R[k] = y at *
          generalize stepN n x = sx at *
          generalize stepN n y = sy at *
          go_wp2_with fail
          refine W1.out.mono ?_
          rintro e w9 ⟨rfl, hw9⟩
          rw [hw9]
          clear hw9 W1
          go_wp2_with fail
          refine W2.out.mono ?_
          rintro e w9 ⟨rfl, hw9⟩
          rw [hw9]
          clear hw9 W2
          by_cases c1 : sx < sy
          · have d1 : decide ((sx : Int) < (sy : Int)) = true := decide_eq_true (by omega)
            have d1N : decide (sx < sy) = true := decide_eq_true c1
            have HNX := hid (HD1.out (Or.inl c1))
            clear HD0 HD1
            go_wp2
            go_roundw
            case rel => exact ⟨j + 1, j, by omega, by go_num, rfl, HNX.out, by trivial⟩
            case measure => simp [intOf]; omega
          · have d1 : decide ((sx : Int) < (sy : Int)) = false := decide_eq_false (by omega)
            have d1N : decide (sx < sy) = false := decide_eq_false c1
            by_cases c2 : sx = sy
            · subst c2
              by_cases c3 : x < y
              · have d3 : decide (x < y) = true := decide_eq_true c3
                have HNX := hid (HD1.out (Or.inr ⟨rfl, c3⟩))
                clear HD0 HD1
                go_wp2
                go_roundw
                case rel => exact ⟨j + 1, j, by omega, by go_num, rfl, HNX.out, by trivial⟩
                case measure => simp [intOf]; omega
              · have d3 : decide (x < y) = false := decide_eq_false c3
                have HNX := hid (HD0.out (fun h => by omega))
                clear HD0 HD1
                go_wp2
                go_roundw
                case rel => exact ⟨j + 1, k, by omega, by go_num, rfl, HNX.out, by trivial⟩
                case measure => simp [intOf]; omega
            · have d2 : ((sx : Int) == (sy : Int)) = false := by rw [beq_eq_false_iff_ne]; omega
              have d2N : (sx == sy) = false := by rw [beq_eq_false_iff_ne]; exact c2
              have HNX := hid (HD0.out (fun h => by omega))
              clear HD0 HD1 c2
              go_wp2
              go_roundw
              case rel => exact ⟨j + 1, k, by omega, by go_num, rfl, HNX.out, by trivial⟩
              case measure => simp [intOf]; omega
        · obtain rfl : j = R.length := by omega
          have hkl := hf.lt
          have x0 := HC.out k hkl
          have HST := hid (HN.out.step k hkl hf.near)
          clear hf HF HC HWY HN
          rcases Nat.lt_or_ge (k + 1) c with hc2 | hc2
          · have hc1 : c ≠ k + 1 := by omega
            have hc0 : c - (k + 1) ≠ 0 := by omega
            have hT : (R.take k).length = k := by rw [List.length_take]; omega
            have hD : (R.drop (k + 1)).length = R.length - (k + 1) := by rw [List.length_drop]
            obtain ⟨v', w', r1, o1, g1, -⟩ := HA.out.right.push hszr R[k] (by omega)
            have A1 : AL2 w.heap.size (.slice (some ⟨B, 0, none⟩) R.length c) R v' (d ++ [R[k]]) w' := by
              obtain ⟨v9, w9, r9, o9, g9⟩ := HA.out.swap.push hszr R[k] (by omega)
              have e9 := (r9 0).symm.trans (r1 0)
              injection e9 with e91 e92
              subst e91; subst e92
              exact o9.swap
            have hIs : Is w'.heap.size (some ⟨B, 0, none⟩) R w' := is_of A1.left
            have hsz1 := g1.size
            have hW1 := boxB w' (.cells #[] 3)
            obtain ⟨v2, w2, r2, o2, g2, -⟩ := (AL.lit w').app hW1.size (some ⟨B, 0, none⟩) c (R.take k) (((is_take hIs k).below hW1).mono hW1.size) (by rw [List.length_take]; simp; omega)
            rw [hT] at r2
            rw [List.nil_append] at o2
            have hg2 : Below w'.heap.size w' w2 := hW1.trans g2
            obtain ⟨v3, w3, r3, o3, g3, -⟩ := o2.app hg2.size (some ⟨B, k + 1, none⟩) (c - (k + 1)) (R.drop (k + 1)) (((by have := is_drop hIs (k + 1); rwa [Nat.zero_add] at this : Is w'.heap.size (some ⟨B, k + 1, none⟩) (R.drop (k + 1)) w').below hg2).mono hg2.size) (by simp; omega)
            rw [hD] at r3
            rw [← List.eraseIdx_eq_take_drop_succ] at o3
            have hg3 : Below w'.heap.size w' w3 := hg2.trans g3
            have HA4 : Hid (AL2 w.heap.size v3 (R.eraseIdx k) v' (d ++ [R[k]]) w3) := by
              refine ⟨o3.mono (Nat.le_trans HB.out.size hsz1), A1.right.below hg3, fun j h1 h2 => ?_⟩
              have := (World.ownsRow.lt o3 j h1).1
              have := (World.ownsRow.lt A1.right j h2).2
              omega
            have HB4 : Hid (Below w.heap.size w w3) := HB.out.trans (g1.trans (hg3.mono (Nat.le_trans HB.out.size hsz1)))
            have hel : (R.eraseIdx k).length = R.length - 1 := by rw [List.length_eraseIdx, if_pos hkl]
            have HEL := hid hel
            have HST2 := HST
            obtain ⟨a3, c3, e3⟩ : ∃ a3 c3, v3 = .slice a3 (R.eraseIdx k).length c3 := by
              obtain ⟨b, c', e, _, _⟩ := o3.own
              exact ⟨b, c', e⟩
            subst e3
            clear o1 A1 g1 hIs hW1 o2 g2 hg2 o3 g3 hg3 hel HST hsz1 HA HB hT hD
            generalize R[k] = x at *
            generalize R.eraseIdx k = E at *
            go_wp2_with (first | (at_builtin; refine wpList_append_run rfl (.tmp 62) (.tmp 64) 23 rfl _ _ rfl rfl _ _ r1 ?_) | (at_builtin; refine wpList_append_run rfl (.tmp 66) (.tmp 69) 23 rfl _ _ rfl rfl _ _ r2 ?_) | (at_builtin; refine wpList_append_run rfl (.tmp 71) (.tmp 75) 23 rfl _ _ rfl rfl _ _ r3 ?_))
            go_roundw
            case rel => exact ⟨E, d ++ [x], x, _, _, rfl, rfl, rfl, HA4.out, HST2.out, HB4.out⟩
            case measure =>
              show E.length < R.length
              have := HEL.out
              omega
          · obtain rfl : c = k + 1 := by omega
            have hnil : ∀ W : World, Is W.heap.size (some ⟨B, 0, none⟩) (R.drop (k + 1)) W := fun W => by rw [List.drop_of_length_le (by omega)]; exact is_nil _ _ _
            have hT : (R.take k).length = k := by rw [List.length_take]; omega
            have hD : (R.drop (k + 1)).length = 0 := by rw [List.length_drop]; omega
            obtain ⟨v', w', r1, o1, g1, -⟩ := HA.out.right.push hszr R[k] (by omega)
            have A1 : AL2 w.heap.size (.slice (some ⟨B, 0, none⟩) R.length (k + 1)) R v' (d ++ [R[k]]) w' := by
              obtain ⟨v9, w9, r9, o9, g9⟩ := HA.out.swap.push hszr R[k] (by omega)
              have e9 := (r9 0).symm.trans (r1 0)
              injection e9 with e91 e92
              subst e91; subst e92
              exact o9.swap
            have hIs : Is w'.heap.size (some ⟨B, 0, none⟩) R w' := is_of A1.left
            have hsz1 := g1.size
            have hW1 := boxB w' (.cells #[] 3)
            obtain ⟨v2, w2, r2, o2, g2, -⟩ := (AL.lit w').app hW1.size (some ⟨B, 0, none⟩) (k + 1) (R.take k) (((is_take hIs k).below hW1).mono hW1.size) (by rw [List.length_take]; simp; omega)
            rw [hT] at r2
            rw [List.nil_append] at o2
            have hg2 : Below w'.heap.size w' w2 := hW1.trans g2
            obtain ⟨v3, w3, r3, o3, g3, -⟩ := o2.app hg2.size (some ⟨B, 0, none⟩) 0 (R.drop (k + 1)) (((hnil w').below hg2).mono hg2.size) (by simp; omega)
            rw [hD] at r3
            rw [← List.eraseIdx_eq_take_drop_succ] at o3
            have hg3 : Below w'.heap.size w' w3 := hg2.trans g3
            have HA4 : Hid (AL2 w.heap.size v3 (R.eraseIdx k) v' (d ++ [R[k]]) w3) := by
              refine ⟨o3.mono (Nat.le_trans HB.out.size hsz1), A1.right.below hg3, fun j h1 h2 => ?_⟩
              have := (World.ownsRow.lt o3 j h1).1
              have := (World.ownsRow.lt A1.right j h2).2
              omega
            have HB4 : Hid (Below w.heap.size w w3) := HB.out.trans (g1.trans (hg3.mono (Nat.le_trans HB.out.size hsz1)))
            have hel : (R.eraseIdx k).length = R.length - 1 := by rw [List.length_eraseIdx, if_pos hkl]
            have HEL := hid hel
            have HST2 := HST
            obtain ⟨a3, c3, e3⟩ : ∃ a3 c3, v3 = .slice a3 (R.eraseIdx k).length c3 := by
              obtain ⟨b, c', e, _, _⟩ := o3.own
              exact ⟨b, c', e⟩
            subst e3
            clear hnil
            clear o1 A1 g1 hIs hW1 o2 g2 hg2 o3 g3 hg3 hel HST hsz1 HA HB hT hD
            generalize R[k] = x at *
            generalize R.eraseIdx k = E at *
            go_wp2_with (first | (at_builtin; refine wpList_append_run rfl (.tmp 62) (.tmp 64) 23 rfl _ _ rfl rfl _ _ r1 ?_) | (at_builtin; refine wpList_append_run rfl (.tmp 66) (.tmp 69) 23 rfl _ _ rfl rfl _ _ r2 ?_) | (at_builtin; refine wpList_append_run rfl (.tmp 71) (.tmp 75) 23 rfl _ _ rfl rfl _ _ r3 ?_))
            go_roundw
            case rel => exact ⟨E, d ++ [x], x, _, _, rfl, rfl, rfl, HA4.out, HST2.out, HB4.out⟩
            case measure =>
              show E.length < R.length
              have := HEL.out
              omega
    · obtain rfl : R = [] := List.eq_nil_of_length_eq_zero (by omega)
      obtain ⟨aR, cR, rfl, _, _⟩ := ha2.left.own
      have HE : Hid (d = V) := hns.done.eq HV.out (List.Perm.refl _)
      clear ha2 hns hbel hlen
      go_wp2
      go_ret2
      rw [← HE.out]
      exact LOut.yes HA.out.right HB.out
end Go.Proofs.Ytpjmblhfahbopaa
