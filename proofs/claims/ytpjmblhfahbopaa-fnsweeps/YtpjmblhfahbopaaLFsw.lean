/- The law on sweeps: its walk out of the contracts. -/
import Derived.Test.YtpjmblhfahbopaaATel
import Derived.Deep.DeepCutAuto
import Derived.Deep.QuietTactic
import Derived.BigQuiet
namespace Go.Proofs.Ytpjmblhfahbopaa
set_option maxRecDepth 100000
open Go Go.ChangeShapes Go.WideShapes Go.ChangeAt Go.RowKit
set_option maxHeartbeats 2500000 in
theorem sweeps_small (l1 c1 l2 c2 : Nat) (a1 a2 : Option Addr) (w : World) (h12 : l1 + l2 ≤ 1048576) (hK1 : Code w.heap.size l1 c1 a1 w) (hK2 : Code w.heap.size l2 c2 a2 w) :
    Calls Try.prog 3 #[.slice a1 l1 c1, .slice a2 l2 c2] w fun e w' => e = .returned (.bool true) ∧ Below w.heap.size w w' := by
  have hd : decide ((1048576 : Int) < (l1 : Int) + (l2 : Int)) = false := by simp; omega
  have HK1 := hid hK1
  have HS : Hid (S8 w [] l2 c2 a2 w) := ⟨Below.refl _ _, hK2, (fun _ h => by cases h)⟩
  clear hK1 hK2
  go_enter Try.func3, Try.ntmps3
  go_wp2_with fail
  refine (drawBestSweep_any l1 c1 a1 _ HK1.out).mono ?_
  rintro e w1 ⟨s, l, b, c, rfl, hl, hlc, hx, hb⟩
  have HS1 : Hid (S8 w [(b, l)] l2 c2 a2 w1) := (HS.out.on hb).add hx
  obtain ⟨V, n, hVl, hV, TS, TI⟩ := best_tells s l (by omega)
  have HV := hid hV
  have HTS := hid TS
  have HTI := hid TI
  have HLS : Hid (∀ v, Is v.heap.size b l v → Calls Try.prog 9 #[.int .i64 s, .slice b l.length c] v fun e w' => e = .returned (.tuple #[.int .i64 (leastN s l), .bool (goodT s l)]) ∧ Below v.heap.size v w') := fun v hv => sleast_any s b c l v (by omega) hlc hv
  have HLI : Hid (∀ v, Is v.heap.size b l v → Calls Try.prog 8 #[.int .i64 s, .slice b l.length c] v fun e w' => e = .returned (.tuple #[.int .i64 (leastN s l), .bool (goodT s l)]) ∧ Below v.heap.size v w') := fun v hv => ileast_any s b c l v (by omega) hv
  have HTRS : Hid (∀ v, Is v.heap.size b l v → Calls Try.prog 11 #[.int .i64 s, .slice b l.length c] v fun e w' => e = .returned (.tuple #[.int .i64 (travN s l), .bool (goodT s l)]) ∧ w' = v) := fun v hv => stravel_any s b c l v (by omega) hv
  have HTRI : Hid (∀ v, Is v.heap.size b l v → Calls Try.prog 10 #[.int .i64 s, .slice b l.length c] v fun e w' => e = .returned (.tuple #[.int .i64 (travN s l), .bool (goodT s l)]) ∧ w' = v) := fun v hv => itravel_any s b c l v (by omega) hv
  have HGS : Hid (∀ v, Is v.heap.size b l v → Calls Try.prog 14 #[.slice b l.length c] v fun e w' => e = .returned (.bool (goodA l)) ∧ w' = v) := fun v hv => sgoodA_any b c l v (by omega) hv
  have HGI : Hid (∀ v, Is v.heap.size b l v → Calls Try.prog 13 #[.slice b l.length c] v fun e w' => e = .returned (.bool (goodA l)) ∧ w' = v) := fun v hv => igoodA_any b c l v (by omega) hv
  have HLE : Hid (goodT s l = true → leastN s l = costI s l) := fun h => leastN_yes h
  have HTE : Hid (goodT s l = true → travN s l = (trav s l : Int)) := fun h => travN_yes h
  have HGT : Hid (∀ m, goodT s l = true → m.length = l.length → (∀ x ∈ m, x ∈ l) → goodT s m = true) := fun m h => good_perm h
  obtain ⟨ok, hok⟩ : ∃ ok, goodT s l = ok := ⟨_, rfl⟩
  obtain ⟨NV, hNVl, hNV, _, NI⟩ := near_tells s l (by omega)
  have HNV := hid hNV
  have HNI := hid NI
  rw [hok] at HV HTS HTI HLS HLI HTRS HTRI HLE HTE HGT HNV HNI
  clear HS HK1 hb hx hV TS TI hNV NI hok
  generalize leastN s l = m at *
  generalize travN s l = t at *
  generalize goodA l = ga at *
  go_wp2_with fail
  refine (HTI.out b c _ (HS1.out.i b l (by simp))).mono ?_
  rintro e w2 ⟨b2, d2, rfl, hx, hb⟩
  have HS2 : Hid (S8 w [(b2, V), (b, l)] l2 c2 a2 w2) := (HS1.out.on hb).add hx.is
  clear HS1 hb hx HTI
  go_wp2_with fail
  refine (HTS.out b c _ (HS2.out.i b l (by simp))).mono ?_
  rintro e w3 ⟨b3, d3, rfl, hx, hb⟩
  have HS3 : Hid (S8 w [(b3, V), (b2, V), (b, l)] l2 c2 a2 w3) := (HS2.out.on hb).add hx.is
  clear HS2 hb hx HTS
  go_wp2_with fail
  refine (HLI.out _ (HS3.out.i b l (by simp))).mono ?_
  rintro e w4 ⟨rfl, hb⟩
  have HS4 := hid (HS3.out.on hb)
  clear HS3 hb HLI
  go_wp2_with fail
  refine (HLS.out _ (HS4.out.i b l (by simp))).mono ?_
  rintro e w5 ⟨rfl, hb⟩
  have HS5 := hid (HS4.out.on hb)
  clear HS4 hb HLS
  go_wp2_with fail
  refine (HTRI.out _ (HS5.out.i b l (by simp))).mono ?_
  rintro e w6 ⟨rfl, hw⟩
  rw [hw]
  clear hw HTRI w6
  go_wp2_with fail
  refine (HTRS.out _ (HS5.out.i b l (by simp))).mono ?_
  rintro e w6 ⟨rfl, hw⟩
  rw [hw]
  clear hw HTRS w6
  go_wp2_with fail
  refine (sameInts_same b2 b3 d2 d3 V _ (by omega) (HS5.out.i b2 V (by simp)) (HS5.out.i b3 V (by simp))).mono ?_
  rintro e w6 ⟨rfl, hb⟩
  have HS6 := hid (HS5.out.on hb)
  clear HS5 hb
  go_wp2_with fail
  refine (HGI.out _ (HS6.out.i b l (by simp))).mono ?_
  rintro e w7 ⟨rfl, hw⟩
  rw [hw]
  clear hw HGI w7
  go_wp2_with fail
  refine (HGS.out _ (HS6.out.i b l (by simp))).mono ?_
  rintro e w7 ⟨rfl, hw⟩
  rw [hw]
  clear hw HGS w7
  go_upto_if 123 with fail
  go_cut [] (fun wd => S8 w [] l2 c2 a2 wd)
  case first =>
    as_aux_lemma =>
      cases ok
      · go_wp2_with fail
        go_meet
        case rel => exact HS6.out.bare
      · obtain ⟨hV, hn⟩ := HV.out rfl
        have hNO := HNV.out rfl
        have hmC := HLE.out rfl
        have htT := HTE.out rfl
        have hVlen : V.length = l.length := by rw [hV, bestL_len]
        have hNlen := (near_perm hNO).length_eq
        have hGV := HGT.out V rfl hVlen (fun x hx => by rw [hV] at hx; exact bestL_mem.1 hx)
        have hGN := HGT.out NV rfl hNlen (fun x hx => (near_perm hNO).mem_iff.1 hx)
        have hbest := best_least s l
        rw [← hV] at hbest
        have hle1 := cost_le_trav l s
        have hle2 := near_cost hNO
        have T1 : ∀ d v, Is v.heap.size b2 V v → Calls Try.prog 10 #[.int .i64 s, .slice b2 V.length d] v fun e w' => e = .returned (.tuple #[.int .i64 n, .bool true]) ∧ w' = v := fun d v hv => by
          have := itravel_any s b2 d V v (by omega) hv
          rwa [hGV, travN_yes hGV, show ((ups s V + dns s V : Nat) : Int) = n from hn.symm] at this
        have T2 : ∀ q d v, Is v.heap.size q NV v → Calls Try.prog 10 #[.int .i64 s, .slice q NV.length d] v fun e w' => e = .returned (.tuple #[.int .i64 (trav s NV : Int), .bool true]) ∧ w' = v := fun q d v hv => by
          have := itravel_any s q d NV v (by omega) hv
          rwa [hGN, travN_yes hGN] at this
        have HT1 := hid T1
        have HT2 := hid T2
        have h1 : ((V.length : Int) == (l.length : Int)) = true := by rw [hVlen]; simp
        have h1n : (V.length == l.length) = true := by rw [hVlen]; simp
        have h2 : ((NV.length : Int) == (l.length : Int)) = true := by rw [hNlen]; simp
        have h2n : (NV.length == l.length) = true := by rw [hNlen]; simp
        have d1 : decide (t < m) = false := decide_eq_false (by omega)
        have d2' : decide ((trav s NV : Int) < m) = false := decide_eq_false (by omega)
        have hnm : n = m := by omega
        clear hV hNO hmC htT hVlen hNlen hGV hGN hbest hle1 hle2 T1 T2 hn HV HNV HLE HTE HGT
        subst hnm
        generalize (trav s NV : Int) = tn at *
        go_wp2_with fail
        refine (HT1.out d2 _ (HS6.out.i b2 V (by simp))).mono ?_
        rintro e w8 ⟨rfl, hw⟩
        rw [hw]
        clear hw HT1
        go_wp2_with fail
        refine (HNI.out b c _ (HS6.out.i b l (by simp))).mono ?_
        rintro e w9 ⟨b9, d9, rfl, hx, hb⟩
        have HS9 : Hid (S8 w [(b9, NV), (b3, V), (b2, V), (b, l)] l2 c2 a2 w9) := (HS6.out.on hb).add hx.is
        clear HS6 hb hx HNI
        go_wp2_with fail
        refine (HT2.out b9 d9 _ (HS9.out.i b9 NV (by simp))).mono ?_
        rintro e w8 ⟨rfl, hw⟩
        rw [hw]
        clear hw HT2
        go_wp2_with fail
        all_goals first
          | (exfalso
             rename_i hne
             first
               | exact hne (eq_of_beq h1)
               | exact hne (eq_of_beq h2))
          | (go_meet
             case rel => exact HS9.out.bare)
  case rest =>
    as_aux_lemma =>
      have HS := hid hcut
      clear hcut HV HNV HLE HTE HGT HS6 HNI
      clear hVl hNVl hl hlc
      go_wp2_with fail
      refine (drawNearestOrder_any l2 c2 a2 _ HS.out.draw).mono ?_
      rintro e w1 ⟨s, l, b, c, rfl, hl, _, hx, hb⟩
      have HS1 : Hid (S8 w [(b, l)] l2 c2 a2 w1) := (HS.out.on hb).add hx
      obtain ⟨V, hVl, _, TS, TI⟩ := near_tells s l (by omega)
      have HTS := hid TS
      have HTI := hid TI
      generalize goodT s l = ok at *
      clear hb hx TS TI HS
      go_wp2_with fail
      refine (HTI.out b c _ (HS1.out.i b l (by simp))).mono ?_
      rintro e w2 ⟨b2, d2, rfl, hx, hb⟩
      have HS2 : Hid (S8 w [(b2, V), (b, l)] l2 c2 a2 w2) := (HS1.out.on hb).add hx.is
      clear HS1 hb hx HTI
      go_wp2_with fail
      refine (HTS.out b c _ (HS2.out.i b l (by simp))).mono ?_
      rintro e w3 ⟨b3, d3, rfl, hx, hb⟩
      have HS3 : Hid (S8 w [(b3, V), (b2, V), (b, l)] l2 c2 a2 w3) := (HS2.out.on hb).add hx.is
      clear HS2 hb hx HTS
      go_wp2_with fail
      refine (sameInts_same b2 b3 d2 d3 V _ (by omega) (HS3.out.i b2 V (by simp)) (HS3.out.i b3 V (by simp))).mono ?_
      rintro e w6 ⟨rfl, hb⟩
      have HS6 := hid (HS3.out.on hb)
      clear HS3 hb
      go_wp2
      go_ret
      exact ⟨rfl, HS6.out.below⟩
set_option maxHeartbeats 400000 in
theorem sweeps_big (l1 c1 l2 c2 : Nat) (a1 a2 : Option Addr) (w : World) (h1 : l1 ≤ 4611686018427387903) (h2 : l2 ≤ 4611686018427387903) (h12 : ¬ l1 + l2 ≤ 1048576) :
    Calls Try.prog 3 #[.slice a1 l1 c1, .slice a2 l2 c2] w fun e w' => e = .returned (.bool true) ∧ Below w.heap.size w w' := by
  have hd : decide ((1048576 : Int) < (l1 : Int) + (l2 : Int)) = true := by simp; omega
  go_enter Try.func3, Try.ntmps3
  go_wp2_with fail
  go_ret
  exact ⟨rfl, Below.refl _ _⟩
end Go.Proofs.Ytpjmblhfahbopaa
