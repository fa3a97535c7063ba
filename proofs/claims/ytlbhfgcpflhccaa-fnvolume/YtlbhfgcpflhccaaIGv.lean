/- Walks of the program's goodBase, goodLog, GoodVolume, markBehind. -/
import Derived.Test.YtlbhfgcpflhccaaSGv
import Derived.Test.YtlbhfgcpflhccaaIGoodR
namespace Go.Proofs.Ytlbhfgcpflhccaa
set_option maxRecDepth 100000
open Go.ChangeShapes Go.WideShapes Go.ChangeAt Go.RowKit G00541
set_option maxHeartbeats 1000000 in
theorem goodBase_any (a : Option Addr) (cap : Nat) (B : List ByteArray) (w : World) (hn : B.length ≤ 1048576) (hZ : Ss w.heap.size a B w) :
    Calls Try.prog 41 #[.slice a B.length cap] w fun e w' => e = .returned (.bool (goodBs B)) ∧ w' = w := by
  have HZ : Hid (Ss w.heap.size a B w) := hZ
  clear hZ
  by_cases h16 : B.length = 16
  case neg =>
    have HG := hid (goodBs_short h16)
    have hd : ((B.length : Int) == 16) = false := beq_eq_false_iff_ne.2 (by omega)
    have hd2 : decide ((B.length : Int) = 16) = false := decide_eq_false (by omega)
    have hd3 : decide (B.length = 16) = false := decide_eq_false (by omega)
    go_enter Try.func41, Try.ntmps41
    go_wp2
    go_ret
    exact ⟨by rw [HG.out]; rfl, rfl⟩
  have hd : ((B.length : Int) == 16) = true := by rw [h16]; rfl
  have hd2 : decide ((B.length : Int) = 16) = true := decide_eq_true (by omega)
  have H16 := hid h16
  clear h16
  go_enter Try.func41, Try.ntmps41
  go_wp2
  go_loopw [10] (fun i wr => ∃ k : Nat, k ≤ B.length ∧ i = .int .i64 k ∧ (∀ j (hj : j < B.length), j < k → B[j].size = 2) ∧ wr = w) (fun i _ => B.length - (intOf i).toNat)
  case atStart => exact ⟨0, Nat.zero_le _, rfl, fun _ _ h => absurd h (Nat.not_lt_zero _), rfl⟩
  case round =>
    obtain ⟨k, hk, rfl, hall, hwr⟩ := hrel
    obtain rfl := hwr.symm
    have HALL := hid hall
    clear hall
    by_cases hlt : k < B.length
    · obtain ⟨b, off, rfl, hb, hcells⟩ := HZ.out.cell (by omega)
      have c0 := hcells k hlt
      clear hcells
      by_cases hq : B[k].size = 2
      · have HL : Hid (∀ j (hj : j < B.length), j < k + 1 → B[j].size = 2) := fun j hj hjk => by
          by_cases e : j = k
          · subst e; exact hq
          · exact HALL.out j hj (by omega)
        generalize B[k] = D at *
        have hd : ((D.size : Int) == 2) = true := by rw [hq]; rfl
        have hd2 : decide ((D.size : Int) = 2) = true := decide_eq_true (by omega)
        go_wp2
        go_roundw
        case rel => exact ⟨k + 1, by omega, by go_num, HL.out, by trivial⟩
        case measure => simp [intOf]; omega
      · have HB := hid (goodBs_bad k hlt hq)
        generalize B[k] = D at *
        have hd : ((D.size : Int) == 2) = false := beq_eq_false_iff_ne.2 (by omega)
        have hd2 : decide ((D.size : Int) = 2) = false := decide_eq_false (by omega)
        go_wp2
        go_ret
        exact ⟨by rw [HB.out]; rfl, by trivial⟩
    · have HG := hid (goodBs_all H16.out (fun j hj => HALL.out j hj (by omega)))
      go_wp2
      go_ret
      exact ⟨by rw [HG.out]; rfl, by trivial⟩
theorem goodLg_no40 {F : Int} {L : List Rc} (h : ¬ L.length ≤ 40) : goodLg F L = false := by
  unfold goodLg; rw [decide_eq_false h]; rfl
theorem goodLg_bad {F : Int} {L : List Rc} (k : Nat) (h : k < L.length) (hb : goodR L[k] = false) : goodLg F L = false := by
  unfold goodLg; rw [goodL_bad L k h hb, Bool.and_false, Bool.false_and]
theorem goodLg_mk {F : Int} {L : List Rc} (h : ¬ MkOk F L) : goodLg F L = false := by
  unfold goodLg; rw [decide_eq_false h, Bool.and_false]
theorem goodLg_yes {F : Int} {L : List Rc} (h4 : L.length ≤ 40) (hg : ∀ j (hj : j < L.length), goodR L[j] = true) (h : MkOk F L) : goodLg F L = true := by
  unfold goodLg
  rw [decide_eq_true h4, decide_eq_true h]
  have : goodL L = true := by
    unfold goodL
    rw [List.all_eq_true]
    intro x hx
    obtain ⟨j, hj, rfl⟩ := List.getElem_of_mem hx
    exact hg j hj
  rw [this]; rfl
set_option maxHeartbeats 4000000 in
theorem goodLog_any (a : Option Addr) (cap : Nat) (F : Int) (L : List Rc) (w : World) (hn : L.length ≤ 1048576) (hF : 0 ≤ F ∧ F ≤ 200) (hL : Rs w.heap.size a L w) :
    Calls Try.prog 42 #[.int .i64 F, .slice a L.length cap] w fun e w' => e = .returned (.bool (goodLg F L)) ∧ Below w.heap.size w w' := by
  have HL : Hid (Rs w.heap.size a L w) := hL
  clear hL
  by_cases h40 : L.length ≤ 40
  case neg =>
    have HG := hid (goodLg_no40 (F := F) h40)
    have hd : decide ((40 : Int) < (L.length : Int)) = true := decide_eq_true (by omega)
    have hdn : decide (40 < L.length) = true := decide_eq_true (by omega)
    go_enter Try.func42, Try.ntmps42
    go_wp2
    go_ret
    exact ⟨by rw [HG.out]; rfl, Below.refl _ _⟩
  have hd : decide ((40 : Int) < (L.length : Int)) = false := decide_eq_false (by omega)
  have hdn : decide (40 < L.length) = false := decide_eq_false (by omega)
  go_enter Try.func42, Try.ntmps42
  go_wp2_with fail
  go_loopw [5, 14] (fun t i wr => ∃ k : Nat, k ≤ L.length ∧ i = .int .i64 k ∧ t = .int .i64 (markF F (L.take k)) ∧ MkTo F L k ∧ (∀ j (hj : j < L.length), j < k → goodR L[j] = true) ∧ Below w.heap.size w wr) (fun _ i _ => L.length - (intOf i).toNat)
  case atStart => exact ⟨0, Nat.zero_le _, rfl, rfl, MkTo.start F L, fun _ _ h => absurd h (Nat.not_lt_zero _), Below.refl _ _⟩
  case round =>
    obtain ⟨k, hk, rfl, rfl, hmt, hall, hbel⟩ := hrel
    have HBEL := hid hbel
    have HMT := hid hmt
    have HALL := hid hall
    clear hbel hmt hall
    by_cases hlt : k < L.length
    · obtain ⟨b, off, rfl, hb, hcells⟩ := HL.out.cell (by omega)
      obtain ⟨c0, c1, c2, c3⟩ := hcells k hlt
      have hb' : ∀ o, wr.cell? ⟨b, o, none⟩ = w.cell? ⟨b, o, none⟩ := fun o => HBEL.out.cell (p := ⟨b, o, none⟩) hb
      rw [← hb'] at c0 c1 c2 c3
      clear hcells hb'
      obtain ⟨m0, m1⟩ := markF_in F L hF.1 hF.2 k hk HALL.out
      have HB1 := hid (HBEL.out.alloc HBEL.out.size (.cells #[.int .i64 L[k].kind, .int .i64 L[k].place, .int .i64 L[k].long, .string (str L[k].data)] 37))
      have HC : Hid (∀ v, Calls Try.prog 35 #[.agg #[.int .i64 L[k].kind, .int .i64 L[k].place, .int .i64 L[k].long, .string (str L[k].data)]] v fun e w' => e = .returned (.bool (goodR L[k])) ∧ Below v.heap.size v w') := fun v => by
        have := igood_any L[k].kind L[k].place L[k].long (str L[k].data) v
        rw [str_list] at this
        exact this
      have d0 : (wr.alloc (.cells #[.int .i64 L[k].kind, .int .i64 L[k].place, .int .i64 L[k].long, .string (str L[k].data)] 37)).cell? ⟨wr.heap.size, 0, none⟩ = some (.int .i64 L[k].kind) := by go_simp
      have d1 : (wr.alloc (.cells #[.int .i64 L[k].kind, .int .i64 L[k].place, .int .i64 L[k].long, .string (str L[k].data)] 37)).cell? ⟨wr.heap.size, 1, none⟩ = some (.int .i64 L[k].place) := by go_simp
      have d2 : (wr.alloc (.cells #[.int .i64 L[k].kind, .int .i64 L[k].place, .int .i64 L[k].long, .string (str L[k].data)] 37)).cell? ⟨wr.heap.size, 2, none⟩ = some (.int .i64 L[k].long) := by go_simp
      have d3 : (wr.alloc (.cells #[.int .i64 L[k].kind, .int .i64 L[k].place, .int .i64 L[k].long, .string (str L[k].data)] 37)).cell? ⟨wr.heap.size, 3, none⟩ = some (.string (str L[k].data)) := by go_simp
      have hls : wr.heap.size < (wr.alloc (.cells #[.int .i64 L[k].kind, .int .i64 L[k].place, .int .i64 L[k].long, .string (str L[k].data)] 37)).heap.size := by simp
      have HBAD : Hid (goodR L[k] = false → goodLg F L = false) := fun h => goodLg_bad k hlt h
      have HALL2 : Hid (goodR L[k] = true → ∀ j (hj : j < L.length), j < k + 1 → goodR L[j] = true) := fun h j hj hjk => by
        by_cases e : j = k
        · subst e; exact h
        · exact HALL.out j hj (by omega)
      have HY : Hid (L[k].kind = 3 → L[k].place = markF F (L.take k) + 1 → MkTo F L (k + 1) ∧ markF F (L.take (k + 1)) = L[k].place) := fun h3 hp => ⟨HMT.out.on hlt (fun _ => hp), markF_snoc_yes F L k hlt h3⟩
      have HN : Hid (L[k].kind = 3 → L[k].place ≠ markF F (L.take k) + 1 → goodLg F L = false) := fun h3 hp => goodLg_mk (MkTo.bad hlt h3 hp)
      have HO : Hid (L[k].kind ≠ 3 → MkTo F L (k + 1) ∧ markF F (L.take (k + 1)) = markF F (L.take k)) := fun h3 => ⟨HMT.out.on hlt (fun g => absurd g h3), markF_snoc_no F L k hlt h3⟩
      generalize goodR L[k] = gr at *
      generalize markF F (L.take k) = m at *
      generalize L[k].kind = rk at *
      generalize L[k].place = rp at *
      generalize L[k].long = rn at *
      generalize str L[k].data = rd at *
      go_wp2_with fail
      refine (HC.out _).mono ?_
      rintro e w1 ⟨rfl, b1⟩
      have HB2 := hid (HB1.out.trans (b1.mono HB1.out.size))
      rw [← b1.cell (p := ⟨wr.heap.size, 0, none⟩) hls] at d0
      rw [← b1.cell (p := ⟨wr.heap.size, 1, none⟩) hls] at d1
      clear b1 hls c0 c1 c2 c3 d2 d3 HC HB1 HMT HALL
      cases gr
      · have HG := hid (HBAD.out rfl)
        go_wp2_with fail
        go_ret
        exact ⟨by rw [HG.out]; rfl, HB2.out⟩
      · have HA := hid (HALL2.out rfl)
        clear HALL2 HBAD
        by_cases h3 : rk = 3
        · have hd3 : (rk == 3) = true := by rw [h3]; rfl
          have hd3' : decide (rk = 3) = true := decide_eq_true h3
          by_cases hp : rp = m + 1
          · obtain ⟨t1, t2⟩ := HY.out h3 hp
            have HT1 := hid t1
            have HT2 := hid t2
            have hdp : (rp == m + 1) = true := by rw [hp]; exact beq_self_eq_true _
            have hdp' : decide (rp = m + 1) = true := decide_eq_true hp
            clear h3 hp t1 t2 HY HN HO
            go_wp2_with fail
            go_roundw
            case rel => exact ⟨k + 1, by omega, by go_num, by rw [HT2.out], HT1.out, HA.out, HB2.out⟩
            case measure => simp [intOf]; omega
          · have HG := hid (HN.out h3 hp)
            have hdp : (rp == m + 1) = false := beq_eq_false_iff_ne.2 hp
            have hdp' : decide (rp = m + 1) = false := decide_eq_false hp
            clear h3 hp HY HN HO
            go_wp2_with fail
            go_ret
            exact ⟨by rw [HG.out]; rfl, HB2.out⟩
        · obtain ⟨t1, t2⟩ := HO.out h3
          have HT1 := hid t1
          have HT2 := hid t2
          have hd3 : (rk == 3) = false := beq_eq_false_iff_ne.2 h3
          have hd3' : decide (rk = 3) = false := decide_eq_false h3
          clear h3 t1 t2 HY HN HO
          go_wp2_with fail
          go_roundw
          case rel => exact ⟨k + 1, by omega, by go_num, by rw [HT2.out], HT1.out, HA.out, HB2.out⟩
          case measure => simp [intOf]; omega
    · obtain rfl : k = L.length := by omega
      have HG := hid (goodLg_yes h40 (fun j hj => HALL.out j hj hj) HMT.out.all)
      go_wp2_with fail
      go_ret
      exact ⟨by rw [HG.out]; rfl, HBEL.out⟩
set_option maxHeartbeats 4000000 in
theorem igoodV_any (aB aL : Option Addr) (kB kL : Nat) (B : List ByteArray) (F : Int) (L : List Rc) (s : Int) (w : World) (hf : B.length ≤ 1048576 ∧ L.length ≤ 1048576) (hB : Ss w.heap.size aB B w) (hL : Rs w.heap.size aL L w) :
    Calls Try.prog 13 #[.agg #[.slice aB B.length kB, .int .i64 F, .slice aL L.length kL, .int .i64 s]] w fun e w' => e = .returned (.bool (goodV B F L s)) ∧ Below w.heap.size w w' := by
  have HB := hid (boxB w (.cells #[.slice aB B.length kB, .int .i64 F, .slice aL L.length kL, .int .i64 s] 28))
  have HC1 := hid (goodBase_any aB kB B (w.alloc (.cells #[.slice aB B.length kB, .int .i64 F, .slice aL L.length kL, .int .i64 s] 28)) hf.1 ((hB.below HB.out).mono HB.out.size))
  have HC2 := hid (fun h => goodLog_any aL kL F L (w.alloc (.cells #[.slice aB B.length kB, .int .i64 F, .slice aL L.length kL, .int .i64 s] 28)) hf.2 h ((hL.below HB.out).mono HB.out.size))
  have hn := hf.2
  clear hB hL hf
  have HE : Hid (¬ ((0 ≤ F ∧ F ≤ 200) ∧ 0 ≤ s ∧ s ≤ L.length) → goodV B F L s = false) := fun h => goodV_no (fun g => h ⟨⟨g.f0, g.f1⟩, g.s0, g.s1⟩)
  have HV : Hid ((0 ≤ F ∧ F ≤ 200) → (0 ≤ s ∧ s ≤ L.length) → goodV B F L s = (goodBs B && goodLg F L)) := fun h g => by
    unfold goodV
    rw [decide_eq_true h, decide_eq_true g, Bool.and_true, Bool.and_true]
  by_cases hF0 : 0 ≤ F
  case neg =>
    have HG := hid (HE.out (fun h => hF0 h.1.1))
    have hd : decide (F < 0) = true := decide_eq_true (by omega)
    go_enter Try.func13, Try.ntmps13
    go_wp2_with fail
    go_ret
    exact ⟨by rw [HG.out]; rfl, HB.out⟩
  have hd0 : decide (F < 0) = false := decide_eq_false (by omega)
  by_cases hF1 : F ≤ 200
  case neg =>
    have HG := hid (HE.out (fun h => hF1 h.1.2))
    have hd : decide (200 < F) = true := decide_eq_true (by omega)
    go_enter Try.func13, Try.ntmps13
    go_wp2_with fail
    go_ret
    exact ⟨by rw [HG.out]; rfl, HB.out⟩
  have hd1 : decide (200 < F) = false := decide_eq_false (by omega)
  by_cases hs0 : 0 ≤ s
  case neg =>
    have HG := hid (HE.out (fun h => hs0 h.2.1))
    have hd : decide (s < 0) = true := decide_eq_true (by omega)
    go_enter Try.func13, Try.ntmps13
    go_wp2_with fail
    go_ret
    exact ⟨by rw [HG.out]; rfl, HB.out⟩
  have hd2 : decide (s < 0) = false := decide_eq_false (by omega)
  by_cases hs1 : s ≤ L.length
  case neg =>
    have HG := hid (HE.out (fun h => hs1 h.2.2))
    have hd : decide ((L.length : Int) < s) = true := decide_eq_true (by omega)
    go_enter Try.func13, Try.ntmps13
    go_wp2_with fail
    go_ret
    exact ⟨by rw [HG.out]; rfl, HB.out⟩
  have hd3 : decide ((L.length : Int) < s) = false := decide_eq_false (by omega)
  have HV2 := hid (HV.out ⟨hF0, hF1⟩ ⟨hs0, hs1⟩)
  have HC3 := hid (HC2.out ⟨hF0, hF1⟩)
  clear HC2 HV HE hF0 hF1 hs0 hs1
  rw [HV2.out]
  clear HV2
  generalize goodBs B = gb at *
  generalize goodLg F L = gl at *
  go_enter Try.func13, Try.ntmps13
  go_wp2_with fail
  refine HC1.out.mono ?_
  rintro e w2 ⟨rfl, hw2⟩
  rw [hw2]
  clear hw2 HC1
  cases gb
  · go_wp2_with fail
    go_ret
    exact ⟨rfl, HB.out⟩
  · go_wp2_with fail
    refine HC3.out.mono ?_
    rintro e w3 ⟨rfl, b3⟩
    have HB3 := hid (HB.out.trans (b3.mono HB.out.size))
    clear b3 HC3
    go_wp2_with fail
    go_ret
    exact ⟨rfl, HB3.out⟩
set_option maxHeartbeats 2000000 in
theorem markBehind_any (aL : Option Addr) (kL : Nat) (F : Int) (L : List Rc) (w : World) (hn : L.length ≤ 1048576) (hL : Rs w.heap.size aL L w) :
    Calls Try.prog 44 #[.int .i64 F, .slice aL L.length kL] w fun e w' => e = .returned (.int .i64 (markF F L)) ∧ Below w.heap.size w w' := by
  have HL : Hid (Rs w.heap.size aL L w) := hL
  clear hL
  go_enter Try.func44, Try.ntmps44
  go_wp2_with fail
  go_loopw [5, 11] (fun t i wr => ∃ k : Nat, k ≤ L.length ∧ i = .int .i64 k ∧ t = .int .i64 (markF F (L.take k)) ∧ Below w.heap.size w wr) (fun _ i _ => L.length - (intOf i).toNat)
  case atStart => exact ⟨0, Nat.zero_le _, rfl, rfl, Below.refl _ _⟩
  case round =>
    obtain ⟨k, hk, rfl, rfl, hbel⟩ := hrel
    have HBEL := hid hbel
    clear hbel
    by_cases hlt : k < L.length
    · obtain ⟨b, off, rfl, hb, hcells⟩ := HL.out.cell (by omega)
      obtain ⟨c0, c1, c2, c3⟩ := hcells k hlt
      have hb' : ∀ o, wr.cell? ⟨b, o, none⟩ = w.cell? ⟨b, o, none⟩ := fun o => HBEL.out.cell (p := ⟨b, o, none⟩) hb
      rw [← hb'] at c0 c1 c2 c3
      clear hcells hb'
      have HB1 := hid (HBEL.out.alloc HBEL.out.size (.cells #[.int .i64 L[k].kind, .int .i64 L[k].place, .int .i64 L[k].long, .string (str L[k].data)] 37))
      by_cases h3 : L[k].kind = 3
      · have hd3 : (L[k].kind == 3) = true := by rw [h3]; rfl
        have hd3' : decide (L[k].kind = 3) = true := decide_eq_true h3
        have HMK := hid (markF_snoc_yes F L k hlt h3)
        clear h3
        generalize markF F (L.take k) = m at *
        generalize L[k].kind = rk at *
        generalize L[k].place = rp at *
        generalize L[k].long = rn at *
        generalize str L[k].data = rd at *
        go_wp2_with fail
        go_roundw
        case rel => exact ⟨k + 1, by omega, by go_num, by rw [HMK.out], HB1.out⟩
        case measure => simp [intOf]; omega
      · have HMK := hid (markF_snoc_no F L k hlt h3)
        have hd3 : (L[k].kind == 3) = false := beq_eq_false_iff_ne.2 h3
        have hd3' : decide (L[k].kind = 3) = false := decide_eq_false h3
        clear h3
        generalize markF F (L.take k) = m at *
        generalize L[k].kind = rk at *
        generalize L[k].place = rp at *
        generalize L[k].long = rn at *
        generalize str L[k].data = rd at *
        go_wp2_with fail
        go_roundw
        case rel => exact ⟨k + 1, by omega, by go_num, by rw [HMK.out], HB1.out⟩
        case measure => simp [intOf]; omega
    · obtain rfl : k = L.length := by omega
      have HG := hid (markF_all F L)
      rw [HG.out]
      go_wp2_with fail
      go_ret
      exact ⟨rfl, HBEL.out⟩
end Go.Proofs.Ytlbhfgcpflhccaa
