/- Walks of what is drawn: two maps; a map and three numbers. -/
import Derived.Test.YtgipkpldlkmdkaaDrawV
namespace Go.Proofs.Ytgipkpldlkmdkaa
set_option maxRecDepth 100000
open Go.ChangeShapes Go.WideShapes Go.ChangeAt Go.RowKit G00541
/-- what PutStretch tells, whatever it is: a map of small fields, or none -/
theorem sput_some (a : Option Addr) (cap : Nat) (l : List Sx) (p n c : Int) (w : World) (hn : l.length ≤ 1048576) (hZ : Xs w.heap.size a l w) :
    ∃ (V : List Sx) (ok : Bool), V.length ≤ 16 ∧ Bnd V ∧ Calls Try.prog 15 #[.slice a l.length cap, .agg #[.int .i64 p, .int .i64 n, .int .i64 c]] w fun e w' => MapOut V ok w e w' := by
  by_cases hg : goodM l = true ∧ goodX ⟨p, n, c⟩ = true
  · have gx := (goodX_iff _).1 hg.2
    simp only at gx
    obtain ⟨p, rfl⟩ : ∃ p' : Nat, p = p' := ⟨p.toNat, by omega⟩
    obtain ⟨n, rfl⟩ : ∃ n' : Nat, n = n' := ⟨n.toNat, by omega⟩
    have hr := putF_range (plN l) ⟨p, n, c⟩ n (plN_range l hg.1) (by simp only; omega) (by simp only; omega)
    exact ⟨_, true, mapF_len _ hr, Bnd.good (mapF_good _ hr), sput_yes a cap l p n c w hn hZ hg.1 hg.2⟩
  · exact ⟨[], false, by decide, (fun _ h => by cases h), sput_no a cap l p n c w hn hZ hg⟩
def TwoMaps (w : World) (e : Ending) (w' : World) : Prop := ∃ (l m : List Sx) (b : Option Addr) (c : Nat) (b' : Option Addr) (c' : Nat), e = .returned (.tuple #[.slice b l.length c, .slice b' m.length c']) ∧ l.length ≤ 16 ∧ m.length ≤ 16 ∧ Bnd l ∧ Bnd m ∧ Xs w'.heap.size b l w' ∧ Xs w'.heap.size b' m w' ∧ Below w.heap.size w w'
set_option maxHeartbeats 2000000 in
theorem drawUnlike_any (len cap : Nat) (a : Option Addr) (w : World) (hK : Code w.heap.size len cap a w) :
    Calls Try.prog 21 #[.slice a len cap] w fun e w' => TwoMaps w e w' := by
  have HC : Hid (Cur w.heap.size 0 (.slice a len cap) (w.alloc (.cells #[.slice a len cap, .int .i64 0, .int .u64 0] 57))) := Cur.start _ _ _
  have HK : Hid (Code w.heap.size len cap a (w.alloc (.cells #[.slice a len cap, .int .i64 0, .int .u64 0] 57))) := hK.start _
  have hz : w.heap.size < (w.alloc (.cells #[.slice a len cap, .int .i64 0, .int .u64 0] 57)).heap.size := by simp
  have HD := hid (fun w' (h : But w.heap.size (w.alloc (.cells #[.slice a len cap, .int .i64 0, .int .u64 0] 57)) w') => But.done h)
  clear hK
  go_enter Try.func21, Try.ntmps21
  go_wp2_with fail
  generalize w.alloc (.cells #[.slice a len cap, .int .i64 0, .int .u64 0] 57) = w0 at *
  refine (stretches_any w.heap.size 0 len cap a _ (by omega) HC.out HK.out).mono ?_
  rintro e w1 ⟨l1, b1, c1, rfl, hl1, hbd1, ho1, hC1, hB1⟩
  have hs1 := hB1.size
  have HC1 : Hid (Cur w.heap.size 200 (.slice a len cap) w1) := hC1.mono (by omega)
  have HK1 : Hid (Code w.heap.size len cap a w1) := HK.out.but hB1 (Nat.le_refl _) (by omega)
  have HB1 : Hid (But w.heap.size w0 w1) := hB1
  have HO1_1 := hid ho1
  have HBD := hid hbd1
  clear hC1 hB1 ho1 hbd1 HC HK
  go_wp2_with fail
  refine (stretch_any w.heap.size _ len cap a _ (by omega) HC1.out HK1.out).mono ?_
  rintro e w2 ⟨p, n, d, rfl, _, hC2, hB2⟩
  have hs2 := hB2.size
  have HC2 : Hid (Cur w.heap.size 220 (.slice a len cap) w2) := hC2.mono (by omega)
  have HK2 : Hid (Code w.heap.size len cap a w2) := HK1.out.but hB2 (Nat.le_refl _) (by omega)
  have HB2 : Hid (But w.heap.size w0 w2) := HB1.out.trans hB2
  have HO1_2 : Hid (OwnX w0.heap.size w1.heap.size b1 l1 w2) := HO1_1.out.but hB2 (by omega)
  clear hC2 hB2 HC1 HK1 HB1 HO1_1
  obtain ⟨V, ok, hV, hbv, hcall⟩ := sput_some b1 c1 l1 p n d w2 (by omega) HO1_2.out.xs
  have HCALL := hid hcall
  have HBV := hid hbv
  clear hcall hbv
  go_wp2_with fail
  refine (HCALL.out).mono ?_
  rintro e w3 ⟨b3, c3, rfl, ho3, g3⟩
  have hs3 := g3.size
  have HC3 : Hid (Cur w.heap.size 220 (.slice a len cap) w3) := HC2.out.below g3
  have HK3 : Hid (Code w.heap.size len cap a w3) := HK2.out.below (g3.mono (by omega))
  have HB3 : Hid (But w.heap.size w0 w3) := HB2.out.on g3 (by omega)
  have HO1_3 : Hid (OwnX w0.heap.size w1.heap.size b1 l1 w3) := HO1_2.out.below g3
  have HO3_3 : Hid (OwnX w2.heap.size w3.heap.size b3 V w3) := ho3
  clear ho3 g3 HCALL HC2 HK2 HB2 HO1_2
  cases ok
  · go_wp2_with fail
    refine (stretches_any w.heap.size 220 len cap a _ (by omega) HC3.out HK3.out).mono ?_
    rintro e w4 ⟨l4, b4, c4, rfl, hl4, hbd4, ho4, _, hB4⟩
    have HX4 : Hid (Xs w4.heap.size b1 l1 w4) := (HO1_3.out.but hB4 (by omega)).xs
    have HY4 : Hid (Xs w4.heap.size b4 l4 w4) := ho4.xs
    have HB4 : Hid (Below w.heap.size w w4) := HD.out _ (HB3.out.trans hB4)
    have HBD4 := hid hbd4
    clear ho4 hB4 hbd4 HC3 HK3 HB3 HO1_3 HO3_3 HD
    go_wp2
    go_ret2
    exact ⟨l1, l4, b1, c1, b4, c4, rfl, hl1, hl4, HBD.out, HBD4.out, HX4.out, HY4.out, HB4.out⟩
  · go_wp2_with fail
    refine (one_any _ w.heap.size _ len cap a _ (by omega) (by omega) (by omega) HC3.out HK3.out).mono ?_
    rintro e w4 ⟨v, rfl, hC4, hB4⟩
    have hs4 := hB4.size
    have HC4 : Hid (Cur w.heap.size 222 (.slice a len cap) w4) := hC4
    have HK4 : Hid (Code w.heap.size len cap a w4) := HK3.out.but hB4 (Nat.le_refl _) (by omega)
    have HB4 : Hid (But w.heap.size w0 w4) := HB3.out.trans hB4
    have HO1_4 : Hid (OwnX w0.heap.size w1.heap.size b1 l1 w4) := HO1_3.out.but hB4 (by omega)
    have HO3_4 : Hid (OwnX w2.heap.size w3.heap.size b3 V w4) := HO3_3.out.but hB4 (by omega)
    clear hC4 hB4 HC3 HK3 HB3 HO1_3 HO3_3
    cases v
    · go_wp2_with fail
      refine (stretches_any w.heap.size 222 len cap a _ (by omega) HC4.out HK4.out).mono ?_
      rintro e w5 ⟨l5, b5, c5, rfl, hl5, hbd5, ho5, _, hB5⟩
      have HX5 : Hid (Xs w5.heap.size b1 l1 w5) := (HO1_4.out.but hB5 (by omega)).xs
      have HY5 : Hid (Xs w5.heap.size b5 l5 w5) := ho5.xs
      have HB5 : Hid (Below w.heap.size w w5) := HD.out _ (HB4.out.trans hB5)
      have HBD5 := hid hbd5
      clear ho5 hB5 hbd5 HC4 HK4 HB4 HO1_4 HO3_4 HD
      go_wp2
      go_ret2
      exact ⟨l1, l5, b1, c1, b5, c5, rfl, hl1, hl5, HBD.out, HBD5.out, HX5.out, HY5.out, HB5.out⟩
    · have HB5 : Hid (Below w.heap.size w w4) := HD.out _ HB4.out
      clear HD HB4 HC4 HK4
      go_wp2
      go_ret2
      exact ⟨l1, V, b1, c1, b3, c3, rfl, hl1, hV, HBD.out, HBV.out, HO1_4.out.xs, HO3_4.out.xs, HB5.out⟩
def MapThree (w : World) (e : Ending) (w' : World) : Prop := ∃ (l : List Sx) (b : Option Addr) (c : Nat) (p q d : Int), e = .returned (.tuple #[.slice b l.length c, .int .i64 p, .int .i64 q, .int .i64 d]) ∧ l.length ≤ 16 ∧ Bnd l ∧ fit p ∧ fit q ∧ -20000 ≤ d ∧ d ≤ 20000 ∧ Xs w'.heap.size b l w' ∧ Below w.heap.size w w'
set_option maxHeartbeats 2000000 in
theorem drawShift_any (len cap : Nat) (a : Option Addr) (w : World) (hK : Code w.heap.size len cap a w) :
    Calls Try.prog 28 #[.slice a len cap] w fun e w' => MapThree w e w' := by
  have HC : Hid (Cur w.heap.size 0 (.slice a len cap) (w.alloc (.cells #[.slice a len cap, .int .i64 0, .int .u64 0] 57))) := Cur.start _ _ _
  have HK : Hid (Code w.heap.size len cap a (w.alloc (.cells #[.slice a len cap, .int .i64 0, .int .u64 0] 57))) := hK.start _
  have hz : w.heap.size < (w.alloc (.cells #[.slice a len cap, .int .i64 0, .int .u64 0] 57)).heap.size := by simp
  have HD := hid (fun w' (h : But w.heap.size (w.alloc (.cells #[.slice a len cap, .int .i64 0, .int .u64 0] 57)) w') => But.done h)
  clear hK
  go_enter Try.func28, Try.ntmps28
  go_wp2_with fail
  generalize w.alloc (.cells #[.slice a len cap, .int .i64 0, .int .u64 0] 57) = w0 at *
  refine (pick_any _ w.heap.size 0 len cap a _ (by omega) (by omega) (by omega) HC.out HK.out).mono ?_
  rintro e w1 ⟨p, rfl, p0, p1, hC1, hB1⟩
  have hs1 := hB1.size
  have HC1 : Hid (Cur w.heap.size 2 (.slice a len cap) w1) := hC1.mono (by omega)
  have HK1 : Hid (Code w.heap.size len cap a w1) := HK.out.but hB1 (Nat.le_refl _) (by omega)
  have HB1 : Hid (But w.heap.size w0 w1) := hB1
  clear hC1 hB1 HC HK
  go_wp2_with fail
  refine (pick_any _ w.heap.size _ len cap a _ (by omega) (by omega) (by omega) HC1.out HK1.out).mono ?_
  rintro e w2 ⟨q, rfl, q0, q1, hC2, hB2⟩
  have hs2 := hB2.size
  have HC2 : Hid (Cur w.heap.size 4 (.slice a len cap) w2) := hC2.mono (by omega)
  have HK2 : Hid (Code w.heap.size len cap a w2) := HK1.out.but hB2 (Nat.le_refl _) (by omega)
  have HB2 : Hid (But w.heap.size w0 w2) := HB1.out.trans hB2
  clear hC2 hB2 HC1 HK1 HB1
  have hq8 : 0 ≤ q / 8 ∧ q / 8 ≤ 1 := by omega
  have hq8t : q.tdiv 8 = q / 8 := Int.tdiv_eq_ediv_of_nonneg q0
  go_wp2_with fail
  refine (stretches_any w.heap.size 4 len cap a _ (by omega) HC2.out HK2.out).mono ?_
  rintro e w3 ⟨l1, b1, c1, rfl, hl1, hbd1, ho1, hC3, hB3⟩
  have hs3 := hB3.size
  have HC3 : Hid (Cur w.heap.size 204 (.slice a len cap) w3) := hC3.mono (by omega)
  have HK3 : Hid (Code w.heap.size len cap a w3) := HK2.out.but hB3 (Nat.le_refl _) (by omega)
  have HB3 : Hid (But w.heap.size w0 w3) := HB2.out.trans hB3
  have HO1_3 := hid ho1
  have HBD := hid hbd1
  clear hC3 hB3 ho1 hbd1 HC2 HK2 HB2
  go_wp2_with fail
  refine (pick_any _ w.heap.size _ len cap a _ (by omega) (by omega) (by omega) HC3.out HK3.out).mono ?_
  rintro e w4 ⟨r, rfl, r0, r1, hC4, hB4⟩
  have hs4 := hB4.size
  have HC4 : Hid (Cur w.heap.size 206 (.slice a len cap) w4) := hC4.mono (by omega)
  have HK4 : Hid (Code w.heap.size len cap a w4) := HK3.out.but hB4 (Nat.le_refl _) (by omega)
  have HB4 : Hid (But w.heap.size w0 w4) := HB3.out.trans hB4
  have HO1_4 : Hid (OwnX w2.heap.size w3.heap.size b1 l1 w4) := HO1_3.out.but hB4 (by omega)
  clear hC4 hB4 HC3 HK3 HB3 HO1_3
  go_wp2_with fail
  refine (pick_any _ w.heap.size _ len cap a _ (by omega) (by omega) (by omega) HC4.out HK4.out).mono ?_
  rintro e w5 ⟨t, rfl, t0, t1, hC5, hB5⟩
  have hs5 := hB5.size
  have HC5 : Hid (Cur w.heap.size 208 (.slice a len cap) w5) := hC5.mono (by omega)
  have HK5 : Hid (Code w.heap.size len cap a w5) := HK4.out.but hB5 (Nat.le_refl _) (by omega)
  have HB5 : Hid (But w.heap.size w0 w5) := HB4.out.trans hB5
  have HO1_5 : Hid (OwnX w2.heap.size w3.heap.size b1 l1 w5) := HO1_4.out.but hB5 (by omega)
  clear hC5 hB5 HC4 HK4 HB4 HO1_4
  have ht8 : 0 ≤ t / 8 ∧ t / 8 ≤ 1 := by omega
  have ht8t : t.tdiv 8 = t / 8 := Int.tdiv_eq_ediv_of_nonneg t0
  have HL := hid3 (fun i h => lits_at [-10000, -5, 0, 1, 100, 10000, 10001] w5 i h)
  go_wp2_with fail
  refine (among_any [-10000, -5, 0, 1, 100, 10000, 10001] 7 w5.heap.size w.heap.size _ len cap 7 a _ rfl (by decide) (by decide) (by simp) (by omega) HL.out (by omega) (HC5.out.alloc _) (HK5.out.but ((But.refl w.heap.size w5).alloc _) (Nat.le_refl _) (by omega))).mono ?_
  rintro e w6 ⟨i6, hi6, rfl, _, hB6⟩
  have hp6 : -20000 ≤ ([-10000, -5, 0, 1, 100, 10000, 10001] : List Int).getD i6 0 ∧ ([-10000, -5, 0, 1, 100, 10000, 10001] : List Int).getD i6 0 ≤ 20000 := by
    match i6, hi6 with
    | 0, _ => decide
    | 1, _ => decide
    | 2, _ => decide
    | 3, _ => decide
    | 4, _ => decide
    | 5, _ => decide
    | 6, _ => decide
  generalize ([-10000, -5, 0, 1, 100, 10000, 10001] : List Int).getD i6 0 = d at *
  have HX6 : Hid (Xs w6.heap.size b1 l1 w6) := ((HO1_5.out.below ((Below.refl _ _).alloc (Nat.le_refl _) _)).but hB6 (by omega)).xs
  have HB6 : Hid (Below w.heap.size w w6) := HD.out _ ((HB5.out.alloc _).trans hB6)
  clear hB6 HC5 HK5 HB5 HO1_5 HL HD
  go_wp2
  refine bodyPost_ret (v := .tuple #[.slice b1 l1.length c1, .int .i64 (p - q / 8), .int .i64 (p - q / 8 + r - t / 8), .int .i64 d]) (by simp [results, Try.results28, go_sem]) rfl ?_
  exact ⟨l1, b1, c1, p - q / 8, p - q / 8 + r - t / 8, d, rfl, hl1, HBD.out, ⟨by omega, by omega⟩, ⟨by omega, by omega⟩, hp6.1, hp6.2, HX6.out, HB6.out⟩
end Go.Proofs.Ytgipkpldlkmdkaa
