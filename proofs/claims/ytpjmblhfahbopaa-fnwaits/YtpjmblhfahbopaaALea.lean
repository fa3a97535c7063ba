/- LeastTravel: the program and the model. -/
import Derived.Test.YtpjmblhfahbopaaALeS
namespace Go.Proofs.Ytpjmblhfahbopaa
set_option maxRecDepth 100000
open Go Go.ChangeShapes Go.WideShapes Go.ChangeAt Go.RowKit
/-- what LeastTravel answers -/
def leastN (s : Int) (l : List Int) : Int := if goodT s l then costI s l else 0
theorem leastN_no {s : Int} {l : List Int} (h : goodT s l = false) : leastN s l = 0 := by unfold leastN; rw [h]; rfl
theorem leastN_yes {s : Int} {l : List Int} (h : goodT s l = true) : leastN s l = costI s l := by unfold leastN; rw [h]; rfl
theorem ret_ib {a b : Int} {x : Bool} (h : a = b) : Ending.returned (.tuple #[.int .i64 a, .bool x]) = .returned (.tuple #[.int .i64 b, .bool x]) := by rw [h]
set_option maxHeartbeats 1000000 in
theorem sleast_any (s : Int) (a : Option Addr) (cap : Nat) (l : List Int) (w : World) (hn : l.length ≤ 1048576) (hc : l.length ≤ cap) (hZ : Is w.heap.size a l w) :
    Calls Try.prog 9 #[.int .i64 s, .slice a l.length cap] w fun e w' => e = .returned (.tuple #[.int .i64 (leastN s l), .bool (goodT s l)]) ∧ Below w.heap.size w w' := by
  have HG := hid (l8Good_any s a cap l w hn hZ)
  cases hg : goodT s l
  · rw [leastN_no hg]
    rw [hg] at HG
    go_enter Try.func9, Try.ntmps9
    go_wp2_with fail
    refine HG.out.mono ?_
    rintro e w2 ⟨rfl, hw2⟩
    rw [hw2]
    clear hw2
    go_wp2
    go_ret2
    exact ⟨rfl, Below.refl _ _⟩
  · have hp := goodT_parts hg
    have h8 := goodA_len hp.2
    have hmem := goodA_mem hp.2
    rw [hg] at HG
    rw [leastN_yes hg]
    have HSW := hid (sweep_any s a cap l true w (by omega) hZ)
    have hW8 : (sweepL s l true).length ≤ 8 := by rw [sweepL_len]; exact h8
    have HWM : Hid (∀ x ∈ sweepL s l true, (0 : Int) ≤ x ∧ x ≤ 200) := fun x hx => hmem x (sweepL_mem.1 hx)
    have hW1 := cost_le_trav (sweepL s l true) s
    have hW2 := trav_le (sweepL s l true) s hp.1 HWM.out
    rw [← cost_congr s (fun y => (sweepL_mem (s := s) (l := l) (up := true) (x := y)).symm)] at hW1
    have HS := hid hp.1
    have HM := hid hmem
    have HZ := hid hZ
    clear hg hp hmem hZ
    generalize sweepL s l true = W at *
    have HW1 := hid hW1
    have hW3 : trav s W ≤ 4000 := by omega
    clear hW1 hW2
    go_enter Try.func9, Try.ntmps9
    go_wp2_with fail
    refine HG.out.mono ?_
    rintro e w2 ⟨rfl, hw2⟩
    rw [hw2]
    clear hw2
    go_wp2_with fail
    refine HSW.out.mono ?_
    rintro e w1 ⟨v1, rfl, o1, b1⟩
    obtain ⟨a1, c1, rfl, ho1, hc1⟩ := o1.own
    have HT := hid (l8Travel_any s a1 c1 W w1 HS.out HWM.out (by omega) ho1.is)
    have HLe := hid (least_any l.length l rfl s 0 ((trav s W : Int) + 1) a cap w1 h8 HS.out HM.out (by omega) (by omega) hc ((HZ.out.below b1).mono b1.size))
    have HB1 := hid b1
    clear o1 b1 ho1 HSW HG
    go_wp2_with fail
    refine HT.out.mono ?_
    rintro e w2 ⟨rfl, hw2⟩
    rw [hw2]
    clear hw2 HT
    go_wp2_with fail
    refine HLe.out.mono ?_
    rintro e w3 ⟨rfl, b3⟩
    have HE : Hid (min ((trav s W : Int) + 1) (0 + costI s l) = costI s l) := by
      show _ = _
      have := HW1.out; omega
    have HB3 : Hid (Below w.heap.size w w3) := HB1.out.trans (b3.mono HB1.out.size)
    clear b3 HLe
    rw [HE.out]
    go_wp2
    go_ret2
    exact ⟨rfl, HB3.out⟩
theorem irow_two (w : World) (x y : Int) : Is (w.alloc (.cells #[.int .i64 x, .int .i64 y] 3)).heap.size (some ⟨w.heap.size, 0, none⟩) [x, y] (w.alloc (.cells #[.int .i64 x, .int .i64 y] 3)) := by
  refine ⟨fun _ => ⟨w.heap.size, 0, rfl, by simp, fun i hi j hj => ?_⟩⟩
  have hi' : i < 2 := by simpa using hi
  obtain rfl : j = 0 := by omega
  rw [box_cell (heap_last _ _)]
  rcases (show i = 0 ∨ i = 1 by omega) with rfl | rfl <;> rfl
set_option maxHeartbeats 1000000 in
theorem ileast_any (s : Int) (a : Option Addr) (cap : Nat) (l : List Int) (w : World) (hn : l.length ≤ 1048576) (hZ : Is w.heap.size a l w) :
    Calls Try.prog 8 #[.int .i64 s, .slice a l.length cap] w fun e w' => e = .returned (.tuple #[.int .i64 (leastN s l), .bool (goodT s l)]) ∧ Below w.heap.size w w' := by
  have HT := hid (isTrack_any s w)
  have HG := hid (igoodA_any a cap l w hn hZ)
  rcases goodT_cases s l with ⟨ht, hg⟩ | ⟨ht, ha, hg⟩ | ⟨ht, ha, hg⟩
  · rw [leastN_no hg, hg]
    rw [ht] at HT
    go_enter Try.func8, Try.ntmps8
    go_wp2_with fail
    refine HT.out.mono ?_
    rintro e w2 ⟨rfl, hw2⟩
    rw [hw2]
    clear hw2
    go_wp2
    go_ret2
    exact ⟨rfl, Below.refl _ _⟩
  · rw [leastN_no hg, hg]
    rw [ht] at HT
    rw [ha] at HG
    go_enter Try.func8, Try.ntmps8
    go_wp2_with fail
    refine HT.out.mono ?_
    rintro e w2 ⟨rfl, hw2⟩
    rw [hw2]
    clear hw2
    go_wp2_with fail
    refine HG.out.mono ?_
    rintro e w2 ⟨rfl, hw2⟩
    rw [hw2]
    clear hw2
    go_wp2
    go_ret2
    exact ⟨rfl, Below.refl _ _⟩
  · have h8 := goodA_len ha
    have HS := hid (trkB_iff.1 ht)
    have HM := hid (goodA_mem ha)
    have HZ := hid hZ
    rw [leastN_yes hg, hg]
    rw [ht] at HT
    rw [ha] at HG
    clear hg ht ha hZ
    go_enter Try.func8, Try.ntmps8
    go_wp2_with fail
    refine HT.out.mono ?_
    rintro e w2 ⟨rfl, hw2⟩
    rw [hw2]
    clear hw2
    go_wp2_with fail
    refine HG.out.mono ?_
    rintro e w2 ⟨rfl, hw2⟩
    rw [hw2]
    clear hw2 HT HG
    go_wp2_with fail
    go_loopw [6, 7, 22] (fun p q i wr => ∃ (k : Nat), k ≤ l.length ∧ i = .int .i64 k ∧ p = .int .i64 (loN s (l.take k)) ∧ q = .int .i64 (hiN s (l.take k)) ∧ wr = w) (fun _ _ i _ => l.length - (intOf i).toNat)
    case atStart => exact ⟨0, Nat.zero_le _, rfl, rfl, rfl, rfl⟩
    case round =>
      obtain ⟨k, hk, rfl, rfl, rfl, hwr⟩ := hrel
      subst hwr
      by_cases hlt : k < l.length
      · obtain ⟨b, off, rfl, hb, hc⟩ := HZ.out.cell (by omega)
        have x0 := hc k hlt
        clear hc
        have H1 : Hid (loN s (l.take (k + 1)) = min (loN s (l.take k)) l[k]) := by show _ = _; rw [take_snoc l k hlt, lo_snoc]
        have H2 : Hid (hiN s (l.take (k + 1)) = max (hiN s (l.take k)) l[k]) := by show _ = _; rw [take_snoc l k hlt, hi_snoc]
        generalize l[k] = x at *
        generalize loN s (l.take k) = lo at *
        generalize hiN s (l.take k) = hi at *
        go_wp2
        all_goals
          go_roundw
          case rel => exact ⟨k + 1, by omega, by go_num, by rw [H1.out]; congr 1; omega, by rw [H2.out]; congr 1; omega, by trivial⟩
          case measure => simp [intOf]; omega
      · obtain rfl : k = l.length := by omega
        have e : l.take l.length = l := List.take_length
        rw [e]
        clear e
        have hc2 := cost_two s l
        have hhi := hi_ge l s
        have hlo := lo_le l s
        have mhi : (0 : Int) ≤ hiN s l ∧ hiN s l ≤ 200 := by
          rcases hi_mem l s with e | e
          · rw [e]; exact HS.out
          · exact HM.out _ e
        have mlo : (0 : Int) ≤ loN s l ∧ loN s l ≤ 200 := by
          rcases lo_mem l s with e | e
          · rw [e]; exact HS.out
          · exact HM.out _ e
        have HC := hid hc2.2.2
        clear hhi hlo hc2
        have HK : ∃ C, C = costI s l := ⟨_, rfl⟩
        obtain ⟨C, hC⟩ := HK
        rw [← hC] at HC
        have HCE := hid hC
        clear hC
        generalize hiN s l = hi at *
        generalize loN s l = lo at *
        have hm1 : ∀ x ∈ [hi, lo], (0 : Int) ≤ x ∧ x ≤ 200 := fun x hx => by
          rcases List.mem_cons.1 hx with rfl | hx
          · exact mhi
          · rcases List.mem_cons.1 hx with rfl | hx
            · exact mlo
            · cases hx
        have hm2 : ∀ x ∈ [lo, hi], (0 : Int) ≤ x ∧ x ≤ 200 := fun x hx => by
          rcases List.mem_cons.1 hx with rfl | hx
          · exact mlo
          · rcases List.mem_cons.1 hx with rfl | hx
            · exact mhi
            · cases hx
        have u1 := ups_le [hi, lo] s HS.out hm1
        have u2 := dns_le [hi, lo] s HS.out hm1
        have u3 := ups_le [lo, hi] s HS.out hm2
        have u4 := dns_le [lo, hi] s HS.out hm2
        simp only [List.length_cons, List.length_nil] at u1 u2 u3 u4
        have HA1 : Hid (∀ v : World, Calls Try.prog 32 #[.int .i64 s, .slice (some ⟨v.heap.size, 0, none⟩) 2 2] (v.alloc (.cells #[.int .i64 hi, .int .i64 lo] 3)) fun e w' => e = .returned (.complex .f64 (fl (ups s [hi, lo])) (fl (dns s [hi, lo]))) ∧ w' = v.alloc (.cells #[.int .i64 hi, .int .i64 lo] 3)) := fun v => along_any s _ 2 [hi, lo] _ HS.out hm1 (by simp) (irow_two v hi lo)
        have HA2 : Hid (∀ v : World, Calls Try.prog 32 #[.int .i64 s, .slice (some ⟨v.heap.size, 0, none⟩) 2 2] (v.alloc (.cells #[.int .i64 lo, .int .i64 hi] 3)) fun e w' => e = .returned (.complex .f64 (fl (ups s [lo, hi])) (fl (dns s [lo, hi]))) ∧ w' = v.alloc (.cells #[.int .i64 lo, .int .i64 hi] 3)) := fun v => along_any s _ 2 [lo, hi] _ HS.out hm2 (by simp) (irow_two v lo hi)
        have HS1 := hid (fun v : World => steps_any (ups s [hi, lo]) (dns s [hi, lo]) v (by omega) (by omega))
        have HS2 := hid (fun v : World => steps_any (ups s [lo, hi]) (dns s [lo, hi]) v (by omega) (by omega))
        have HCC : Hid (C = min ((ups s [hi, lo] + dns s [hi, lo] : Nat) : Int) ((ups s [lo, hi] + dns s [lo, hi] : Nat) : Int)) := HC.out
        clear hm1 hm2 u1 u2 u3 u4 HC mhi mlo
        generalize ups s [hi, lo] = U1 at *
        generalize dns s [hi, lo] = D1 at *
        generalize ups s [lo, hi] = U2 at *
        generalize dns s [lo, hi] = D2 at *
        generalize U1 + D1 = N1 at *
        generalize U2 + D2 = N2 at *
        generalize fl U1 = f1 at *
        generalize fl D1 = f2 at *
        generalize fl U2 = f3 at *
        generalize fl D2 = f4 at *
        have HA3 : Hid (Calls Try.prog 32 #[.int .i64 s, .slice (some ⟨wr.heap.size + 1, 0, none⟩) 2 2] ((wr.alloc (.cells #[.int .i64 hi, .int .i64 lo] 3)).alloc (.cells #[.int .i64 lo, .int .i64 hi] 3)) fun e w' => e = .returned (.complex .f64 f3 f4) ∧ w' = (wr.alloc (.cells #[.int .i64 hi, .int .i64 lo] 3)).alloc (.cells #[.int .i64 lo, .int .i64 hi] 3)) := by
          have := HA2.out (wr.alloc (.cells #[.int .i64 hi, .int .i64 lo] 3))
          rwa [heap_size] at this
        have HB : Hid (∀ o o', Below wr.heap.size wr ((wr.alloc o).alloc o')) := fun o o' => ((Below.refl _ _).alloc (Nat.le_refl _) _).alloc (by simp) _
        go_wp2_with fail
        refine (HA1.out _).mono ?_
        rintro e w2 ⟨rfl, hw2⟩
        rw [hw2]
        clear hw2 HA1
        go_wp2_with fail
        refine (HS1.out _).mono ?_
        rintro e w2 ⟨rfl, hw2⟩
        rw [hw2]
        clear hw2 HS1
        go_wp2_with fail
        refine HA3.out.mono ?_
        rintro e w2 ⟨rfl, hw2⟩
        rw [hw2]
        clear hw2 HA3 HA2
        go_wp2_with fail
        refine (HS2.out _).mono ?_
        rintro e w2 ⟨rfl, hw2⟩
        rw [hw2]
        clear hw2 HS2
        go_wp2
        all_goals
          go_ret2
          exact ⟨ret_ib (by rw [← HCE.out, HCC.out]; omega), HB.out _ _⟩
end Go.Proofs.Ytpjmblhfahbopaa
