/- Walks of the model's l6Blocks, GoodVolume, l6Mark. -/
import Derived.Test.YtlbhfgcpflhccaaVBase
import Derived.Test.YtlbhfgcpflhccaaVPlain
import Derived.Test.YtlbhfgcpflhccaaIn
namespace Go.Proofs.Ytlbhfgcpflhccaa
set_option maxRecDepth 100000
open Go.ChangeShapes Go.WideShapes Go.ChangeAt Go.RowKit G00541
set_option maxHeartbeats 1000000 in
theorem l6Blocks_any (a : Option Addr) (cap : Nat) (B : List ByteArray) (w : World) (hn : B.length ≤ 1048576) (hZ : Ss w.heap.size a B w) :
    Calls Try.prog 49 #[.slice a B.length cap] w fun e w' => e = .returned (.bool (goodBs B)) ∧ w' = w := by
  have HZ : Hid (Ss w.heap.size a B w) := hZ
  clear hZ
  go_enter Try.func49, Try.ntmps49
  go_wp2
  go_loopw [7] (fun i wr => ∃ k : Nat, k ≤ B.length ∧ i = .int .i64 k ∧ (∀ j (hj : j < B.length), j < k → B[j].size = 2) ∧ wr = w) (fun i _ => B.length - (intOf i).toNat)
  case atStart => exact ⟨0, Nat.zero_le _, rfl, fun _ _ h => absurd h (Nat.not_lt_zero _), rfl⟩
  case round =>
    obtain ⟨k, hk, rfl, hall, hwr⟩ := hrel
    obtain rfl := hwr.symm
    have HALL := hid hall
    clear hall
    by_cases hlt : k < B.length
    · obtain ⟨b, off, rfl, hb, hcells⟩ := HZ.out.cell (by omega)
      have c0 := hcells k hlt
      clear hcells
      by_cases hq : B[k].size = 2
      · have HL : Hid (∀ j (hj : j < B.length), j < k + 1 → B[j].size = 2) := fun j hj hjk => by
          by_cases e : j = k
          · subst e; exact hq
          · exact HALL.out j hj (by omega)
        generalize B[k] = D at *
        have hd : ((D.size : Int) == 2) = true := by rw [hq]; rfl
        have hd2 : decide ((D.size : Int) = 2) = true := decide_eq_true (by omega)
        go_wp2
        go_roundw
        case rel => exact ⟨k + 1, by omega, by go_num, HL.out, by trivial⟩
        case measure => simp [intOf]; omega
      · have HB := hid (goodBs_bad k hlt hq)
        generalize B[k] = D at *
        have hd : ((D.size : Int) == 2) = false := beq_eq_false_iff_ne.2 (by omega)
        have hd2 : decide ((D.size : Int) = 2) = false := decide_eq_false (by omega)
        go_wp2
        go_ret
        exact ⟨by rw [HB.out]; rfl, by trivial⟩
    · by_cases h16 : B.length = 16
      · have HG := hid (goodBs_all h16 (fun j hj => HALL.out j hj (by omega)))
        have hd : ((B.length : Int) == 16) = true := by rw [h16]; rfl
        have hd2 : decide ((B.length : Int) = 16) = true := decide_eq_true (by omega)
        clear h16
        go_wp2
        go_ret
        exact ⟨by rw [HG.out]; first | rfl | (simp [hd]) | (simp_all), by trivial⟩
      · have HG := hid (goodBs_short h16)
        have hd : ((B.length : Int) == 16) = false := beq_eq_false_iff_ne.2 (by omega)
        have hd2 : decide ((B.length : Int) = 16) = false := decide_eq_false (by omega)
        go_wp2
        go_ret
        exact ⟨by rw [HG.out]; first | rfl | (simp [hd]) | (simp_all), by trivial⟩
set_option maxHeartbeats 4000000 in
theorem sgoodV_any (aB aL : Option Addr) (kB kL : Nat) (B : List ByteArray) (F : Int) (L : List Rc) (s : Int) (w : World) (hf : B.length ≤ 1048576 ∧ L.length ≤ 1048576) (hB : Ss w.heap.size aB B w) (hL : Rs w.heap.size aL L w) :
    Calls Try.prog 20 #[.agg #[.slice aB B.length kB, .int .i64 F, .slice aL L.length kL, .int .i64 s]] w fun e w' => e = .returned (.bool (goodV B F L s)) ∧ Below w.heap.size w w' := by
  have HB := hid (boxB w (.cells #[.slice aB B.length kB, .int .i64 F, .slice aL L.length kL, .int .i64 s] 28))
  have y0 : (w.alloc (.cells #[.slice aB B.length kB, .int .i64 F, .slice aL L.length kL, .int .i64 s] 28)).cell? ⟨w.heap.size, 0, none⟩ = some (.slice aB B.length kB) := by go_simp
  have y1 : (w.alloc (.cells #[.slice aB B.length kB, .int .i64 F, .slice aL L.length kL, .int .i64 s] 28)).cell? ⟨w.heap.size, 1, none⟩ = some (.int .i64 F) := by go_simp
  have y2 : (w.alloc (.cells #[.slice aB B.length kB, .int .i64 F, .slice aL L.length kL, .int .i64 s] 28)).cell? ⟨w.heap.size, 2, none⟩ = some (.slice aL L.length kL) := by go_simp
  have y3 : (w.alloc (.cells #[.slice aB B.length kB, .int .i64 F, .slice aL L.length kL, .int .i64 s] 28)).cell? ⟨w.heap.size, 3, none⟩ = some (.int .i64 s) := by go_simp
  have hlt : w.heap.size < (w.alloc (.cells #[.slice aB B.length kB, .int .i64 F, .slice aL L.length kL, .int .i64 s] 28)).heap.size := by simp
  have HC1 := hid (l6Blocks_any aB kB B (w.alloc (.cells #[.slice aB B.length kB, .int .i64 F, .slice aL L.length kL, .int .i64 s] 28)) hf.1 ((hB.below HB.out).mono HB.out.size))
  have HC2 := hid (l3good_any aL kL L (w.alloc (.cells #[.slice aB B.length kB, .int .i64 F, .slice aL L.length kL, .int .i64 s] 28)) hf.2 ((hL.below HB.out).mono HB.out.size))
  have HL : Hid (Rs w.heap.size aL L w) := hL
  have hn := hf.2
  clear hB hL hf
  go_enter Try.func20, Try.ntmps20
  go_wp2_with fail
  generalize w.alloc (.cells #[.slice aB B.length kB, .int .i64 F, .slice aL L.length kL, .int .i64 s] 28) = W at *
  refine HC1.out.mono ?_
  rintro e w2 ⟨rfl, hw2⟩
  rw [hw2]
  clear hw2 HC1
  cases hbs : goodBs B
  · have HN : Hid (goodV B F L s = false) := goodV_no (fun h => by rw [h.bs] at hbs; cases hbs)
    go_wp2_with fail
    go_ret
    exact ⟨by rw [HN.out]; rfl, HB.out⟩
  by_cases h40 : L.length ≤ 40
  case neg =>
    have HN : Hid (goodV B F L s = false) := goodV_no (fun h => h40 h.len)
    have hd : decide ((40 : Int) < (L.length : Int)) = true := decide_eq_true (by omega)
    have hdn : decide (40 < L.length) = true := decide_eq_true (by omega)
    go_wp2_with fail
    go_ret
    exact ⟨by rw [HN.out]; rfl, HB.out⟩
  have hd : decide ((40 : Int) < (L.length : Int)) = false := decide_eq_false (by omega)
  have hdn : decide (40 < L.length) = false := decide_eq_false (by omega)
  go_wp2_with fail
  refine HC2.out.mono ?_
  rintro e w3 ⟨rfl, b3⟩
  have HB3 := hid (HB.out.trans (b3.mono HB.out.size))
  rw [← b3.cell (p := ⟨w.heap.size, 1, none⟩) hlt] at y1
  rw [← b3.cell (p := ⟨w.heap.size, 2, none⟩) hlt] at y2
  rw [← b3.cell (p := ⟨w.heap.size, 3, none⟩) hlt] at y3
  clear HC2 b3 y0 hlt HB
  cases hgl : goodL L
  · have HN : Hid (goodV B F L s = false) := goodV_no (fun h => by rw [h.recs] at hgl; cases hgl)
    go_wp2_with fail
    go_ret
    exact ⟨by rw [HN.out]; rfl, HB3.out⟩
  have HGL := hid (fun j hj => good_at hgl j hj)
  by_cases hs : 0 ≤ s ∧ s ≤ L.length
  case neg =>
    have HN : Hid (goodV B F L s = false) := goodV_no (fun h => hs ⟨h.s0, h.s1⟩)
    have HC := hid (l1In_no s 0 L.length w3 (by omega))
    go_wp2_with fail
    refine HC.out.mono ?_
    rintro e w4 ⟨rfl, hw4⟩
    rw [hw4]
    go_wp2_with fail
    go_ret
    exact ⟨by rw [HN.out]; rfl, HB3.out⟩
  have HC := hid (l1In_yes s 0 L.length w3 hs.1 hs.2)
  go_wp2_with fail
  refine HC.out.mono ?_
  rintro e w4 ⟨rfl, hw4⟩
  rw [hw4]
  clear hw4 HC
  by_cases hF : 0 ≤ F ∧ F ≤ 200
  case neg =>
    have HN : Hid (goodV B F L s = false) := goodV_no (fun h => hF ⟨h.f0, h.f1⟩)
    have HC := hid (l1In_no F 0 200 w3 (by omega))
    go_wp2_with fail
    refine HC.out.mono ?_
    rintro e w4 ⟨rfl, hw4⟩
    rw [hw4]
    go_wp2_with fail
    go_ret
    exact ⟨by rw [HN.out]; rfl, HB3.out⟩
  have HC := hid (l1In_yes F 0 200 w3 hF.1 hF.2)
  have HM : Hid (∀ k, k ≤ L.length → 0 ≤ markF F (L.take k) ∧ markF F (L.take k) ≤ 200) := fun k hk => markF_in F L hF.1 hF.2 k hk (fun j hj _ => HGL.out j hj)
  have HY : Hid (MkOk F L → goodV B F L s = true) := fun h => goodV_iff.2 ⟨hbs, h40, hgl, h, hs.1, hs.2, hF.1, hF.2⟩
  have HN : Hid (¬ MkOk F L → goodV B F L s = false) := fun h => goodV_no (fun g => h g.mok)
  clear hbs hgl hs hF
  go_wp2_with fail
  refine HC.out.mono ?_
  rintro e w4 ⟨rfl, hw4⟩
  rw [hw4]
  clear hw4 HC
  go_wp2_with fail
  go_loopw [3, 42] (fun t i wr => ∃ k : Nat, k ≤ L.length ∧ i = .int .i64 k ∧ t = .int .i64 (markF F (L.take k)) ∧ MkTo F L k ∧ Below w.heap.size w wr) (fun _ i _ => L.length - (intOf i).toNat)
  case atStart => exact ⟨0, Nat.zero_le _, rfl, rfl, MkTo.start F L, HB3.out⟩
  case round =>
    obtain ⟨k, hk, rfl, rfl, hmt, hbel⟩ := hrel
    have HBEL := hid hbel
    have HMT := hid hmt
    clear hbel hmt y1 y2 y3
    by_cases hlt : k < L.length
    · obtain ⟨b, off, rfl, hb, hcells⟩ := HL.out.cell (by omega)
      obtain ⟨c0, c1, c2, c3⟩ := hcells k hlt
      have hb' : ∀ o, wr.cell? ⟨b, o, none⟩ = w.cell? ⟨b, o, none⟩ := fun o => HBEL.out.cell (p := ⟨b, o, none⟩) hb
      rw [← hb'] at c0 c1 c2 c3
      clear hcells hb'
      obtain ⟨m0, m1⟩ := HM.out k hk
      have HB1 := hid (HBEL.out.alloc HBEL.out.size (.cells #[.int .i64 L[k].kind, .int .i64 L[k].place, .int .i64 L[k].long, .string (str L[k].data)] 37))
      by_cases h3 : L[k].kind = 3
      · have hd3 : (L[k].kind == 3) = true := by rw [h3]; rfl
        have hd3' : decide (L[k].kind = 3) = true := decide_eq_true h3
        by_cases hp : L[k].place = markF F (L.take k) + 1
        · have HNX := hid (HMT.out.on hlt (fun _ => hp))
          have HMK := hid ((markF_snoc_yes F L k hlt h3).trans hp)
          have hdp : (L[k].place == markF F (L.take k) + 1) = true := by rw [hp]; exact beq_self_eq_true _
          have hdp' : decide (L[k].place = markF F (L.take k) + 1) = true := decide_eq_true hp
          clear h3 hp
          generalize markF F (L.take k) = m at *
          generalize L[k].kind = rk at *
          generalize L[k].place = rp at *
          generalize L[k].long = rn at *
          generalize str L[k].data = rd at *
          go_wp2_with fail
          go_roundw
          case rel => exact ⟨k + 1, by omega, by go_num, by rw [HMK.out], HNX.out, HB1.out⟩
          case measure => simp [intOf]; omega
        · have HBAD := hid (HN.out (MkTo.bad hlt h3 hp))
          have hdp : (L[k].place == markF F (L.take k) + 1) = false := beq_eq_false_iff_ne.2 hp
          have hdp' : decide (L[k].place = markF F (L.take k) + 1) = false := decide_eq_false hp
          clear h3 hp
          generalize markF F (L.take k) = m at *
          generalize L[k].kind = rk at *
          generalize L[k].place = rp at *
          generalize L[k].long = rn at *
          generalize str L[k].data = rd at *
          go_wp2_with fail
          go_ret
          exact ⟨by rw [HBAD.out]; rfl, HB1.out⟩
      · have HNX := hid (HMT.out.on hlt (fun g => absurd g h3))
        have HMK := hid (markF_snoc_no F L k hlt h3)
        have hd3 : (L[k].kind == 3) = false := beq_eq_false_iff_ne.2 h3
        have hd3' : decide (L[k].kind = 3) = false := decide_eq_false h3
        clear h3
        generalize markF F (L.take k) = m at *
        generalize L[k].kind = rk at *
        generalize L[k].place = rp at *
        generalize L[k].long = rn at *
        generalize str L[k].data = rd at *
        go_wp2_with fail
        go_roundw
        case rel => exact ⟨k + 1, by omega, by go_num, by rw [HMK.out], HNX.out, HB1.out⟩
        case measure => simp [intOf]; omega
    · obtain rfl : k = L.length := by omega
      have HG := hid (HY.out HMT.out.all)
      go_wp2_with fail
      go_ret
      exact ⟨by rw [HG.out]; rfl, HBEL.out⟩
set_option maxHeartbeats 2000000 in
theorem l6Mark_any (aB aL : Option Addr) (kB kL : Nat) (B : List ByteArray) (F : Int) (L : List Rc) (s : Int) (w : World) (hn : L.length ≤ 1048576) (hL : Rs w.heap.size aL L w) :
    Calls Try.prog 56 #[.agg #[.slice aB B.length kB, .int .i64 F, .slice aL L.length kL, .int .i64 s]] w fun e w' => e = .returned (.int .i64 (markF F L)) ∧ Below w.heap.size w w' := by
  have HB := hid (boxB w (.cells #[.slice aB B.length kB, .int .i64 F, .slice aL L.length kL, .int .i64 s] 28))
  have HL : Hid (Rs w.heap.size aL L w) := hL
  clear hL
  go_enter Try.func56, Try.ntmps56
  go_wp2_with fail
  generalize w.alloc (.cells #[.slice aB B.length kB, .int .i64 F, .slice aL L.length kL, .int .i64 s] 28) = W at *
  go_loopw [3, 11] (fun t i wr => ∃ k : Nat, k ≤ L.length ∧ i = .int .i64 k ∧ t = .int .i64 (markF F (L.take k)) ∧ Below w.heap.size w wr) (fun _ i _ => L.length - (intOf i).toNat)
  case atStart => exact ⟨0, Nat.zero_le _, rfl, rfl, HB.out⟩
  case round =>
    obtain ⟨k, hk, rfl, rfl, hbel⟩ := hrel
    have HBEL := hid hbel
    clear hbel
    by_cases hlt : k < L.length
    · obtain ⟨b, off, rfl, hb, hcells⟩ := HL.out.cell (by omega)
      obtain ⟨c0, c1, c2, c3⟩ := hcells k hlt
      have hb' : ∀ o, wr.cell? ⟨b, o, none⟩ = w.cell? ⟨b, o, none⟩ := fun o => HBEL.out.cell (p := ⟨b, o, none⟩) hb
      rw [← hb'] at c0 c1 c2 c3
      clear hcells hb'
      have HB1 := hid (HBEL.out.alloc HBEL.out.size (.cells #[.int .i64 L[k].kind, .int .i64 L[k].place, .int .i64 L[k].long, .string (str L[k].data)] 37))
      by_cases h3 : L[k].kind = 3
      · have hd3 : (L[k].kind == 3) = true := by rw [h3]; rfl
        have hd3' : decide (L[k].kind = 3) = true := decide_eq_true h3
        have HMK := hid (markF_snoc_yes F L k hlt h3)
        clear h3
        generalize markF F (L.take k) = m at *
        generalize L[k].kind = rk at *
        generalize L[k].place = rp at *
        generalize L[k].long = rn at *
        generalize str L[k].data = rd at *
        go_wp2_with fail
        go_roundw
        case rel => exact ⟨k + 1, by omega, by go_num, by rw [HMK.out], HB1.out⟩
        case measure => simp [intOf]; omega
      · have HMK := hid (markF_snoc_no F L k hlt h3)
        have hd3 : (L[k].kind == 3) = false := beq_eq_false_iff_ne.2 h3
        have hd3' : decide (L[k].kind = 3) = false := decide_eq_false h3
        clear h3
        generalize markF F (L.take k) = m at *
        generalize L[k].kind = rk at *
        generalize L[k].place = rp at *
        generalize L[k].long = rn at *
        generalize str L[k].data = rd at *
        go_wp2_with fail
        go_roundw
        case rel => exact ⟨k + 1, by omega, by go_num, by rw [HMK.out], HB1.out⟩
        case measure => simp [intOf]; omega
    · obtain rfl : k = L.length := by omega
      have HG := hid (markF_all F L)
      rw [HG.out]
      go_wp2_with fail
      go_ret
      exact ⟨rfl, HBEL.out⟩
end Go.Proofs.Ytlbhfgcpflhccaa
