/- Walk of the model's GoodHeap: the whole. -/
import Derived.Test.YtpdcomlokcohjaaHA
namespace Go.Proofs.Ytpdcomlokcohjaa
set_option maxRecDepth 100000
open Go.ChangeShapes Go.WideShapes Go.ChangeAt Go.RowKit G00541
set_option maxHeartbeats 4000000 in
theorem sgoodH_any (aS aL : Option Addr) (kS kL : Nat) (S : List Sg) (L : List (List Bool)) (w : World) (hG : Gs w.heap.size aS S w) (hV : Vs w.heap.size aL L w) :
    Calls Try.prog 12 #[.agg #[.slice aS S.length kS, .slice aL L.length kL]] w fun e w' => e = .returned (.bool (goodH S L)) ∧ Below w.heap.size w w' := by
  have HG := hid hG
  have HV := hid hV
  clear hG hV
  have hmi := make_ints16
  have hmb := make_bools16
  by_cases hn : 2 ≤ S.length ∧ S.length ≤ 8
  case neg =>
    have HF : Hid (goodH S L = false) := goodH_many S L hn
    have hno := fun v => l1In_no (S.length : Int) 2 8 v (by omega)
    have HN := hid hno
    clear hno hmi hmb
    go_enter Try.func12, Try.ntmps12
    go_wp2_with fail
    refine (HN.out _).mono ?_
    rintro e w2 ⟨rfl, hw2⟩
    rw [hw2]
    clear hw2
    go_wp2_with fail
    go_ret
    exact ⟨ret_b2 HF.out.symm, (Below.refl _ _).alloc (Nat.le_refl _) _⟩
  have hyes := fun v => l1In_yes (S.length : Int) 2 8 v (by omega) (by omega)
  have HN := hid hyes
  clear hyes
  by_cases hl : L.length = S.length
  case neg =>
    have HF : Hid (goodH S L = false) := goodH_len S L hl
    have hd1 : ((L.length : Int) == (S.length : Int)) = false := beq_eq_false_iff_ne.2 (by omega)
    have hd2 : ((L.length : Int) != (S.length : Int)) = true := bne_iff_ne.2 (by omega)
    clear hmi hmb
    go_enter Try.func12, Try.ntmps12
    go_wp2_with fail
    refine (HN.out _).mono ?_
    rintro e w2 ⟨rfl, hw2⟩
    rw [hw2]
    clear hw2
    go_wp2_with fail
    go_ret
    exact ⟨ret_b2 HF.out.symm, (Below.refl _ _).alloc (Nat.le_refl _) _⟩
  have hd2 : ((S.length : Int) != (S.length : Int)) = false := by simp
  rw [hl]
  have HL := hid hl
  have HR : Hid (∀ M1 M2, M1 = madeCells (Value.int .i64 0).cells 16 → M2 = madeCells (Value.bool false).cells 16 → GH w (.cells #[.slice aS S.length kS, .slice aL S.length kL] 26) [] (((w.alloc (.cells #[.slice aS S.length kS, .slice aL S.length kL] 26)).alloc (.cells M1 3)).alloc (.cells M2 4))) := by
    rintro _ _ rfl rfl
    refine ⟨(((Below.refl _ _).alloc (Nat.le_refl _) _).alloc (by simp) _).alloc (by simp; omega) _, ?_, ?_, ?_⟩
    · rw [Below.heap_alloc _ _ _ (by simp; omega), Below.heap_alloc _ _ _ (by simp)]
      exact heap_last _ _
    · rw [liveL_nil]
      have := IRow.made (w.alloc (.cells #[.slice aS S.length kS, .slice aL S.length kL] 26)) 16
      rw [heap_size] at this
      exact this.below ((Below.refl _ _).alloc (Nat.le_refl _) _)
    · rw [everL_nil]
      have := BRow.made ((w.alloc (.cells #[.slice aS S.length kS, .slice aL S.length kL] 26)).alloc (.cells (madeCells (Value.int .i64 0).cells 16) 3)) 16
      rw [heap_size, heap_size] at this
      exact this
  generalize hM1 : madeCells (Value.int .i64 0).cells 16 = M1 at *
  generalize hM2 : madeCells (Value.bool false).cells 16 = M2 at *
  have HR0 := hid (HR.out M1 M2 rfl rfl)
  clear HR hM1 hM2
  go_enter Try.func12, Try.ntmps12
  go_wp2_with fail
  refine (HN.out _).mono ?_
  rintro e w2 ⟨rfl, hw2⟩
  rw [hw2]
  clear hw2 HN
  go_wp2_with fail
  go_loopw [30] (fun i wr => ∃ k : Nat, k ≤ S.length ∧ i = .int .i64 k ∧ (∀ j (h : j < S.length), j < k → goodS S[j] (L[j]'(by omega)) = true) ∧ (allP (S.take k) (L.take k)).length ≤ 6 * k ∧ GH w (.cells #[.slice aS S.length kS, .slice aL S.length kL] 26) (allP (S.take k) (L.take k)) wr) (fun i _ => S.length - (intOf i).toNat)
  case atStart => exact ⟨0, Nat.zero_le _, rfl, (fun _ _ h => absurd h (Nat.not_lt_zero _)), by simp [allP], HR0.out⟩
  case round =>
    clear HR0 hmi hmb
    obtain ⟨k, hk, rfl, hall, hmany, hgh⟩ := hrel
    have HGH := hid hgh
    have HALL := hid hall
    clear hall
    by_cases hlt : k < S.length
    · obtain ⟨b, off, rfl, hb, hcl⟩ := HG.out (by omega)
      obtain ⟨p, c, c0, c1, hI⟩ := hcl k hlt
      have hbel := hgh.below
      rw [← hbel.cell (p := ⟨b, off + k * 2, none⟩) hb] at c0
      rw [← hbel.cell (p := ⟨b, off + k * 2 + 1, none⟩) hb] at c1
      obtain ⟨b', off', rfl, hb', hcv⟩ := HV.out (by omega)
      obtain ⟨p', c', c2, hJ⟩ := hcv k (by omega)
      have HV0 := hid c2
      rw [← hbel.cell (p := ⟨b', off' + k, none⟩) hb'] at c2
      clear hcl hcv
      have hx0 := box_cell hgh.box 0
      have hx1 := box_cell hgh.box 1
      have hsz := hgh.size
      have HI := hid hI
      have HJ := hid hJ
      have HST : Hid (allP (S.take (k + 1)) (L.take (k + 1)) = allP (S.take k) (L.take k) ++ prs S[k] (L[k]'(by omega))) := allP_take S L k hlt (by omega)
      have HBAD : Hid (goodS S[k] (L[k]'(by omega)) = false → goodH S L = false) := goodH_seg S L hl k hlt
      have HNX : Hid (goodS S[k] (L[k]'(by omega)) = true → ∀ j (h : j < S.length), j < k + 1 → goodS S[j] (L[j]'(by omega)) = true) := fun h j hj hjk => by
        by_cases e : j = k
        · subst e; exact h
        · exact HALL.out j hj (by omega)
      clear hgh HALL hI hJ hbel
      generalize L[k]'(by omega) = v at *
      generalize S[k] = s at *
      obtain ⟨l, age⟩ := s
      simp only at c0 c1
      go_wp2_with fail
      have HGW : Hid (GH w (.cells #[.slice (some ⟨b, off, none⟩) S.length kS, .slice (some ⟨b', off', none⟩) S.length kL] 26) (allP (S.take k) (L.take k)) (wr.alloc (.cells #[.slice p l.length c, .int .i64 age] 40))) := HGH.out.on ((Below.refl _ _).alloc (Nat.le_refl _) _)
      have z0 : (wr.alloc (.cells #[.slice p l.length c, .int .i64 age] 40)).cell? ⟨wr.heap.size, 0, none⟩ = some (.slice p l.length c) := by go_simp
      have z1 : (wr.alloc (.cells #[.slice p l.length c, .int .i64 age] 40)).cell? ⟨wr.heap.size, 1, none⟩ = some (.int .i64 age) := by go_simp
      have hsw : (wr.alloc (.cells #[.slice p l.length c, .int .i64 age] 40)).heap.size = wr.heap.size + 1 := heap_size _ _
      generalize hW : wr.alloc (.cells #[.slice p l.length c, .int .i64 age] 40) = W at *
      have y0 := box_cell HGW.out.box 0
      have y1 := box_cell HGW.out.box 1
      have HIW : Hid (∀ n, Is (W.drewN n).heap.size p l (W.drewN n)) := fun n => ((HI.out.below HGW.out.below).mono HGW.out.below.size).below (belowN W n)
      have v0 : W.cell? ⟨b', off' + k, none⟩ = some (.slice p' v.length c') := by
        have := HGW.out.below.cell (p := ⟨b', off' + k, none⟩) hb'
        rw [this, ← HGH.out.below.cell (p := ⟨b', off' + k, none⟩) hb']
        exact c2
      clear c0 c1 c2 hx0 hx1 HGH hW
      have HALLIN : Hid (∀ x, Is x.heap.size p l x → l.length ≤ 6 → Calls Try.prog 44 #[.slice p l.length c, .int .i64 0, .int .i64 15] x fun e w' => e = .returned (.bool (allIn l 0 15)) ∧ w' = x) := fun x hx h6 => l1All_any p c l 0 15 x (by omega) hx
      by_cases q1 : l.length ≤ 6
      case neg =>
        have hd6 : decide ((6 : Int) < (l.length : Int)) = true := decide_eq_true (by omega)
        have HF : Hid (goodH S L = false) := HBAD.out (by unfold goodS; simp [q1])
        clear HNX HST HBAD HI HJ hmany HL HG HV HALLIN
        go_wp2_with fail
        go_quiet (fail)
        all_goals
          have HB := hid (HGW.out.on (belowN W nq)).below
          generalize hW1 : W.drewN nq = w1 at *
          clear hW1 z0 z1 y0 y1 v0 HGW
          go_wp2
          go_ret
          exact ⟨ret_b2 HF.out.symm, HB.out⟩
      have hd6 : decide ((6 : Int) < (l.length : Int)) = false := decide_eq_false (by omega)
      by_cases q2 : allIn l 0 15 = true
      case neg =>
        have q2f : allIn l 0 15 = false := by cases h : allIn l 0 15 <;> simp_all
        have HA : Hid (∀ x, Is x.heap.size p l x → Calls Try.prog 44 #[.slice p l.length c, .int .i64 0, .int .i64 15] x fun e w' => e = .returned (.bool false) ∧ w' = x) := fun x hx => by have := HALLIN.out x hx q1; rw [q2f] at this; exact this
        have HF : Hid (goodH S L = false) := HBAD.out (by unfold goodS; rw [show inBl l = false from q2f]; simp)
        clear HNX HST HBAD HI HJ hmany HL HG HV HALLIN q2f q2
        go_wp2_with fail
        go_quiet ((go_at_call 44; exact Calls.quiet_of_same (HA.out _ (HIW.out _))))
        all_goals
          have HB := hid (HGW.out.on (belowN W nq)).below
          generalize hW1 : W.drewN nq = w1 at *
          clear hW1 z0 z1 y0 y1 v0 HGW HA HIW
          go_wp2
          go_ret
          exact ⟨ret_b2 HF.out.symm, HB.out⟩
      have HA : Hid (∀ x, Is x.heap.size p l x → Calls Try.prog 44 #[.slice p l.length c, .int .i64 0, .int .i64 15] x fun e w' => e = .returned (.bool true) ∧ w' = x) := fun x hx => by have := HALLIN.out x hx q1; rw [q2] at this; exact this
      by_cases q3 : 0 ≤ age ∧ age ≤ 1000
      case neg =>
        have HIN := hid (fun v => l1In_no age 0 1000 v (by omega))
        have HF : Hid (goodH S L = false) := HBAD.out (by unfold goodS; simp [q3])
        clear HNX HST HBAD HI HJ hmany HL HG HV HALLIN q2 q3
        go_wp2_with fail
        go_quiet ((first | (go_at_call 44; exact Calls.quiet_of_same (HA.out _ (HIW.out _))) | (go_at_call 43; exact Calls.quiet_of_same (HIN.out _))))
        all_goals
          have HB := hid (HGW.out.on (belowN W nq)).below
          generalize hW1 : W.drewN nq = w1 at *
          clear hW1 z0 z1 y0 y1 v0 HGW HA HIW HIN
          go_wp2
          go_ret
          exact ⟨ret_b2 HF.out.symm, HB.out⟩
      have HIN := hid (fun v => l1In_yes age 0 1000 v q3.1 q3.2)
      by_cases q4 : v.length = l.length
      case neg =>
        have hde : ((v.length : Int) == (l.length : Int)) = false := beq_eq_false_iff_ne.2 (by omega)
        have hdn : ((v.length : Int) != (l.length : Int)) = true := bne_iff_ne.2 (by omega)
        have HF : Hid (goodH S L = false) := HBAD.out (by unfold goodS; simp [q4])
        clear HNX HST HBAD HI HJ hmany HL HG HV HALLIN q2 q3
        go_wp2_with fail
        go_quiet ((first | (go_at_call 44; exact Calls.quiet_of_same (HA.out _ (HIW.out _))) | (go_at_call 43; exact Calls.quiet_of_same (HIN.out _))))
        all_goals
          have HB := hid (HGW.out.on (belowN W nq)).below
          generalize hW1 : W.drewN nq = w1 at *
          clear hW1 z0 z1 y0 y1 v0 HGW HA HIW HIN
          go_wp2
          go_ret
          exact ⟨ret_b2 HF.out.symm, HB.out⟩
      have hdn : ((l.length : Int) != (l.length : Int)) = false := by simp
      have HGS : Hid (goodS ⟨l, age⟩ v = true) := by
        refine (goodS_iff _ _).2 ⟨q1, fun x hx => ?_, q3.1, q3.2, q4⟩
        obtain ⟨j, hj, rfl⟩ := List.getElem_of_mem hx
        exact allIn_at l 0 15 q2 j hj
      have HAT := hid (allIn_at l 0 15 q2)
      have HPL := hid (prs_len ⟨l, age⟩ v q4)
      have HPT := hid (fun i (h : i < l.length) => prs_take ⟨l, age⟩ v i h (by omega))
      have HV4 := hid q4
      rw [q4] at v0 HV0
      clear HBAD HALLIN q2
      go_wp2_with fail
      go_quiet ((first | (go_at_call 44; exact Calls.quiet_of_same (HA.out _ (HIW.out _))) | (go_at_call 43; exact Calls.quiet_of_same (HIN.out _))))
      have HGW1 := hid (HGW.out.on (belowN W nq))
      have z0' : (W.drewN nq).cell? ⟨wr.heap.size, 0, none⟩ = some (.slice p l.length c) := z0
      generalize hW1 : W.drewN nq = w1 at *
      clear hW1 z0 z1 y0 y1 v0 HGW HA HIW HIN q3
      generalize allP (S.take k) (L.take k) = P0 at *
      go_wp2_with fail
      go_loopw [66] (fun i wr => ∃ n : Nat, n ≤ l.length ∧ i = .int .i64 n ∧ GH w (.cells #[.slice (some ⟨b, off, none⟩) S.length kS, .slice (some ⟨b', off', none⟩) S.length kL] 26) (P0 ++ (prs ⟨l, age⟩ v).take n) wr) (fun i _ => l.length - (intOf i).toNat)
      case atStart => exact ⟨0, Nat.zero_le _, rfl, by rw [List.take_zero, List.append_nil]; exact HGW1.out⟩
      case round =>
        obtain ⟨n, hnl, rfl, hgi⟩ := hrel
        clear HGW1 z0' hsw
        have HGI := hid hgi
        by_cases hi : n < l.length
        · obtain ⟨bp, op, rfl, hbp, hcp⟩ := HI.out.cell (by omega)
          obtain ⟨bq, oq, rfl, hbq, hcq⟩ := HJ.out.cell (by omega)
          have x0 := (hgi.below.cell (p := ⟨bp, op + n, none⟩) hbp).trans (hcp n hi)
          have X1 := hid (hcq n (by omega))
          obtain ⟨g0, g1⟩ := HAT.out n hi
          have HPTn := hid (HPT.out n hi)
          have HTL : Hid (((prs ⟨l, age⟩ v).take n).length ≤ 6) := by
            show ((prs ⟨l, age⟩ v).take n).length ≤ 6
            rw [List.length_take]; omega
          clear hcp hcq
          generalize l[n] = x at *
          generalize v[n]'(by omega) = t at *
          generalize (prs ⟨l, age⟩ v).take n = T at *
          obtain ⟨m, rfl⟩ : ∃ m : Nat, x = m := ⟨x.toNat, by omega⟩
          have hm : m < 16 := by omega
          have e0 := hgi.ever.cell m (by rw [everL_len]; exact hm)
          have f0 := hgi.ever.free m (by rw [everL_len]; exact hm)
          have hlv := hgi.live.cell m (by rw [liveL_len]; exact hm)
          have hlf := hgi.live.free m (by rw [liveL_len]; exact hm)
          have HNO := hid (hgi.no m hm)
          have HYES := hid (hgi.yes m (by rw [liveL_len]; exact hm))
          have HQ : Hid ((liveL (P0 ++ T))[m]'(by rw [liveL_len]; exact hm) = (liveN (P0 ++ T) m : Int)) := liveL_at _ _ _
          have hq1 : liveN (P0 ++ T) m ≤ 54 := by
            refine Nat.le_trans (liveN_le _ _) ?_
            have := HTL.out
            rw [List.length_append]; omega
          rw [HQ.out] at hlv HYES
          have HW3 : Hid (Below w.heap.size w (wr.setCell ⟨w.heap.size + 1 + 1, m, none⟩ (.bool true))) := setB hgi.below _ _ (by omega) _
          have k0 : (wr.setCell ⟨w.heap.size + 1 + 1, m, none⟩ (.bool true)).cell? ⟨w.heap.size + 1, m, none⟩ = some (.int .i64 (liveN (P0 ++ T) m : Int)) := by
            rw [World.cell?_setCell_other _ _ _ _ (fun e3 => by have h3 : w.heap.size + 1 + 1 = w.heap.size + 1 := congrArg Addr.block e3; omega)]
            exact hlv
          have k1 : (wr.setCell ⟨w.heap.size + 1 + 1, m, none⟩ (.bool true)).frozen? ⟨w.heap.size + 1, m, none⟩ = false := by rw [World.frozen?_setCell]; exact hlf
          have k2 : (wr.setCell ⟨w.heap.size + 1 + 1, m, none⟩ (.bool true)).cell? ⟨w.heap.size, 1, none⟩ = some (.slice (some ⟨b', off', none⟩) S.length kL) := by
            rw [World.cell?_setCell_other _ _ _ _ (fun e3 => by have h3 : w.heap.size + 1 + 1 = w.heap.size := congrArg Addr.block e3; omega)]
            exact box_cell hgi.box 1
          have k3 : (wr.setCell ⟨w.heap.size + 1 + 1, m, none⟩ (.bool true)).cell? ⟨b', off' + k, none⟩ = some (.slice (some ⟨bq, oq, none⟩) l.length c') := (HW3.out.cell (p := ⟨b', off' + k, none⟩) hb').trans HV0.out
          have k4 : (wr.setCell ⟨w.heap.size + 1 + 1, m, none⟩ (.bool true)).cell? ⟨bq, oq + n, none⟩ = some (.bool t) := (HW3.out.cell (p := ⟨bq, oq + n, none⟩) hbq).trans X1.out
          generalize liveN (P0 ++ T) m = q at *
          generalize hW3 : wr.setCell ⟨w.heap.size + 1 + 1, m, none⟩ (.bool true) = W3 at *
          have HE := hid hW3
          clear hgi hlv hlf HW3
          cases t
          · go_wp2_with fail
            go_roundw
            case rel => exact ⟨n + 1, by omega, by go_num, by rw [HPTn.out, ← List.append_assoc]; exact HNO.out⟩
            case measure => simp [intOf]; omega
          · go_wp2_with fail
            go_roundw
            case rel => exact ⟨n + 1, by omega, by go_num, by rw [HPTn.out, ← List.append_assoc]; exact HYES.out⟩
            case measure => simp [intOf]; omega
        · obtain rfl : n = l.length := by omega
          have HTK : Hid ((prs ⟨l, age⟩ v).take l.length = prs ⟨l, age⟩ v) := by
            show (prs ⟨l, age⟩ v).take l.length = prs ⟨l, age⟩ v
            exact List.take_of_length_le (Nat.le_of_eq HPL.out)
          clear hgi
          go_wp2_with fail
          go_roundw
          case rel => exact ⟨k + 1, by omega, by go_num, HNX.out HGS.out, by rw [HST.out, List.length_append, HPL.out]; omega, by rw [HST.out]; rw [HTK.out] at HGI; exact HGI.out⟩
          case measure => simp [intOf]; omega
    · obtain rfl : k = S.length := by omega
      have hgh' := hgh
      rw [List.take_of_length_le (Nat.le_refl _), List.take_of_length_le (Nat.le_of_eq hl)] at hgh'
      have HG2 := hid hgh'
      have HPM : Hid ((allP S L).length ≤ 48) := by
        rw [List.take_of_length_le (Nat.le_refl _), List.take_of_length_le (Nat.le_of_eq hl)] at hmany
        show (allP S L).length ≤ 48
        omega
      have HALL2 : Hid (∀ j (h : j < S.length), goodS S[j] (L[j]'(by omega)) = true) := fun j h => HALL.out j h h
      clear hgh hgh' HGH HALL hmany HG HV
      go_wp2_with fail
      go_loopw [92] (fun i wr => ∃ n : Nat, n ≤ 16 ∧ i = .int .i64 n ∧ (∀ j, j < n → okB (allP S L) j = true) ∧ GH w (.cells #[.slice aS S.length kS, .slice aL S.length kL] 26) (allP S L) wr) (fun i _ => 16 - (intOf i).toNat)
      case atStart => exact ⟨0, Nat.zero_le _, rfl, (fun _ h => absurd h (Nat.not_lt_zero _)), HG2.out⟩
      case round =>
        clear HG2
        obtain ⟨n, hn16, rfl, hok, hgi⟩ := hrel
        have HOK := hid hok
        have HGI := hid hgi
        clear hok
        by_cases hi : n < 16
        · have e0 := hgi.ever.cell n (by rw [everL_len]; exact hi)
          have l0 := hgi.live.cell n (by rw [liveL_len]; exact hi)
          rw [everL_at] at e0
          rw [liveL_at] at l0
          have HBAD : Hid (okB (allP S L) n = false → goodH S L = false) := goodH_block S L hl n hi
          have HNX : Hid (okB (allP S L) n = true → ∀ j, j < n + 1 → okB (allP S L) j = true) := fun h j hj => by
            by_cases e : j = n
            · subst e; exact h
            · exact HOK.out j (by omega)
          have hokd : okB (allP S L) n = decide (liveN (allP S L) n ≤ 1 ∧ (everB (allP S L) n = true → liveN (allP S L) n ≠ 0)) := rfl
          have HOKD := hid hokd
          have hq1 : liveN (allP S L) n ≤ 48 := Nat.le_trans (liveN_le _ _) HPM.out
          clear hgi hokd HOK
          generalize liveN (allP S L) n = q at *
          generalize everB (allP S L) n = t at *
          by_cases q1 : q ≤ 1
          · have hd1 : decide ((1 : Int) < (q : Int)) = false := decide_eq_false (by omega)
            have hd1n : decide (1 < q) = false := decide_eq_false (by omega)
            cases t
            · have HN1 := hid (HNX.out (by rw [HOKD.out]; exact decide_eq_true ⟨q1, fun h => by cases h⟩))
              clear HNX HBAD HOKD
              go_wp2_with fail
              go_roundw
              case rel => exact ⟨n + 1, by omega, by go_num, HN1.out, HGI.out⟩
              case measure => simp [intOf]; omega
            · by_cases q0 : q = 0
              · subst q0
                have HF := hid (HBAD.out (by rw [HOKD.out]; exact decide_eq_false (fun h => h.2 rfl rfl)))
                clear HNX HBAD HOKD
                go_wp2_with fail
                go_ret
                exact ⟨ret_b2 HF.out.symm, HGI.out.below⟩
              · have hd0 : ((q : Int) == 0) = false := beq_eq_false_iff_ne.2 (by omega)
                have HN1 := hid (HNX.out (by rw [HOKD.out]; exact decide_eq_true ⟨q1, fun _ => q0⟩))
                clear HNX HBAD HOKD
                go_wp2_with fail
                go_roundw
                case rel => exact ⟨n + 1, by omega, by go_num, HN1.out, HGI.out⟩
                case measure => simp [intOf]; omega
          · have hd1 : decide ((1 : Int) < (q : Int)) = true := decide_eq_true (by omega)
            have hd1n : decide (1 < q) = true := decide_eq_true (by omega)
            have HF := hid (HBAD.out (by rw [HOKD.out]; exact decide_eq_false (fun h => q1 h.1)))
            clear HNX HBAD HOKD
            go_wp2_with fail
            go_ret
            exact ⟨ret_b2 HF.out.symm, HGI.out.below⟩
        · have HT : Hid (goodH S L = true) := (goodH_iff S L hl).2 ⟨hn, HALL2.out, fun b hb => HOK.out b (by omega)⟩
          clear hgi
          go_wp2_with fail
          go_ret
          exact ⟨ret_b2 HT.out.symm, HGI.out.below⟩
end Go.Proofs.Ytpdcomlokcohjaa
