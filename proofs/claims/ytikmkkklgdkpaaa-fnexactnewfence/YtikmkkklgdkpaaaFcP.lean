/- Papers, pairs, judges and places that are good: the program's functions. -/
import Derived.Test.YtikmkkklgdkpaaaFcB
import Derived.Laws.EntriesVeiled
import Derived.Deep.DeepCutAuto
import Derived.Deep.RegionWith
namespace Go.Proofs.Ytikmkkklgdkpaaa
set_option maxRecDepth 100000
open Go Go.ChangeShapes Go.WideShapes Go.ChangeAt Go.RowKit
set_option maxHeartbeats 2000000 in
theorem endsOf_ask (p : Pp) (w : World) (hk : p.kd = 1) : Calls Try.prog 88 #[.agg #[.int .i64 p.kd, .int .i64 p.fr, .int .i64 p.tt, .int .i64 p.no]] w fun e w' => e = .returned (.tuple #[.int .i64 p.fr, .int .i64 p.tt]) ∧ Below w.heap.size w w' := by
  obtain ⟨kd, fr, tt, no⟩ := p
  simp only at hk ⊢
  subst hk
  have HC := hid (fun v => endsAsk_any ⟨1, fr, tt, no⟩ v)
  have HB : Hid (Below w.heap.size w ((w.alloc (.cells #[.int .i64 1, .int .i64 fr, .int .i64 tt, .int .i64 no] 74)).alloc (.cells #[.func (.func 97) #[] #[], .func (.func 98) #[] #[]] 118))) := ((Below.refl _ _).alloc (Nat.le_refl _) _).alloc (by simp) _
  have hx : ((w.alloc (.cells #[.int .i64 1, .int .i64 fr, .int .i64 tt, .int .i64 no] 74)).alloc (.cells #[.func (.func 97) #[] #[], .func (.func 98) #[] #[]] 118)).heap[w.heap.size]? = some (.cells #[.int .i64 1, .int .i64 fr, .int .i64 tt, .int .i64 no] 74) := heap_mid2 _ _ _
  have hy : ((w.alloc (.cells #[.int .i64 1, .int .i64 fr, .int .i64 tt, .int .i64 no] 74)).alloc (.cells #[.func (.func 97) #[] #[], .func (.func 98) #[] #[]] 118)).heap[w.heap.size + 1]? = some (.cells #[.func (.func 97) #[] #[], .func (.func 98) #[] #[]] 118) := heap_last2 _ _ _
  have x0 := box_cell hx 0
  have x1 := box_cell hx 1
  have x2 := box_cell hx 2
  have x3 := box_cell hx 3
  have y0 := box_cell hy 0
  have y1 := box_cell hy 1
  clear hx hy
  go_enter Try.func88, Try.ntmps88
  go_wp2_with fail
  generalize ((w.alloc (.cells #[.int .i64 1, .int .i64 fr, .int .i64 tt, .int .i64 no] 74)).alloc (.cells #[.func (.func 97) #[] #[], .func (.func 98) #[] #[]] 118)) = W at *
  have B1 := (Below.refl W.heap.size W).drew
  go_region_with (go_at_call 97; refine (HC.out _).mono ?_; rintro e w9 ⟨rfl, b9⟩)
  all_goals
    have HB9 := hid (HB.out.trans ((show Below W.heap.size W w9 from ⟨b9.os, b9.tape, b9.output, b9.size, b9.block⟩).mono HB.out.size))
    clear b9 x0 x1 x2 x3 y0 y1
    go_wp2_with fail
    go_ret2
    exact ⟨rfl, HB9.out⟩
set_option maxHeartbeats 2000000 in
theorem endsOf_promise (p : Pp) (w : World) (hk : p.kd = 2) : Calls Try.prog 88 #[.agg #[.int .i64 p.kd, .int .i64 p.fr, .int .i64 p.tt, .int .i64 p.no]] w fun e w' => e = .returned (.tuple #[.int .i64 p.tt, .int .i64 p.fr]) ∧ Below w.heap.size w w' := by
  obtain ⟨kd, fr, tt, no⟩ := p
  simp only at hk ⊢
  subst hk
  have HC := hid (fun v => endsPromise_any ⟨2, fr, tt, no⟩ v)
  have HB : Hid (Below w.heap.size w ((w.alloc (.cells #[.int .i64 2, .int .i64 fr, .int .i64 tt, .int .i64 no] 74)).alloc (.cells #[.func (.func 97) #[] #[], .func (.func 98) #[] #[]] 118))) := ((Below.refl _ _).alloc (Nat.le_refl _) _).alloc (by simp) _
  have hx : ((w.alloc (.cells #[.int .i64 2, .int .i64 fr, .int .i64 tt, .int .i64 no] 74)).alloc (.cells #[.func (.func 97) #[] #[], .func (.func 98) #[] #[]] 118)).heap[w.heap.size]? = some (.cells #[.int .i64 2, .int .i64 fr, .int .i64 tt, .int .i64 no] 74) := heap_mid2 _ _ _
  have hy : ((w.alloc (.cells #[.int .i64 2, .int .i64 fr, .int .i64 tt, .int .i64 no] 74)).alloc (.cells #[.func (.func 97) #[] #[], .func (.func 98) #[] #[]] 118)).heap[w.heap.size + 1]? = some (.cells #[.func (.func 97) #[] #[], .func (.func 98) #[] #[]] 118) := heap_last2 _ _ _
  have x0 := box_cell hx 0
  have x1 := box_cell hx 1
  have x2 := box_cell hx 2
  have x3 := box_cell hx 3
  have y0 := box_cell hy 0
  have y1 := box_cell hy 1
  clear hx hy
  go_enter Try.func88, Try.ntmps88
  go_wp2_with fail
  generalize ((w.alloc (.cells #[.int .i64 2, .int .i64 fr, .int .i64 tt, .int .i64 no] 74)).alloc (.cells #[.func (.func 97) #[] #[], .func (.func 98) #[] #[]] 118)) = W at *
  have B1 := (Below.refl W.heap.size W).drew
  go_region_with (go_at_call 98; refine (HC.out _).mono ?_; rintro e w9 ⟨rfl, b9⟩)
  all_goals
    have HB9 := hid (HB.out.trans ((show Below W.heap.size W w9 from ⟨b9.os, b9.tape, b9.output, b9.size, b9.block⟩).mono HB.out.size))
    clear b9 x0 x1 x2 x3 y0 y1
    go_wp2_with fail
    go_ret2
    exact ⟨rfl, HB9.out⟩
set_option maxHeartbeats 2000000 in
theorem goodPaper_1 (fr tt no m : Int) (w : World) : Calls Try.prog 74 #[.agg #[.int .i64 1, .int .i64 fr, .int .i64 tt, .int .i64 no], .int .i64 m] w fun e w' => e = .returned (.bool (plB fr && inB 0 (m - 1) tt && noB no)) ∧ Below w.heap.size w w' := by
  have HC := hid (fun v => endsOf_ask ⟨1, fr, tt, no⟩ v rfl)
  have HP := hid (fun v => isPlace_any fr v)
  have HN := hid (fun v => isNo_any no v)
  have HB := hid (boxB w (.cells #[.int .i64 1, .int .i64 fr, .int .i64 tt, .int .i64 no] 74))
  have HK := hid (heap_last w (.cells #[.int .i64 1, .int .i64 fr, .int .i64 tt, .int .i64 no] 74))
  go_enter Try.func74, Try.ntmps74
  go_upto_region 3 with fail
  generalize w.alloc (.cells #[.int .i64 1, .int .i64 fr, .int .i64 tt, .int .i64 no] 74) = W at *
  have x0 := box_cell HK.out 0
  have x1 := box_cell HK.out 1
  have x2 := box_cell HK.out 2
  have x3 := box_cell HK.out 3
  go_wp2_with fail
  refine (HC.out _).mono ?_
  rintro e w2 ⟨rfl, b2⟩
  have HB2 := hid (HB.out.trans (b2.mono HB.out.size))
  have HK2 := hid ((b2.block _ (kbox HK.out)).trans HK.out)
  clear x0 x1 x2 x3 b2 HB HK HC
  have x3 := box_cell HK2.out 3
  go_wp2_with fail
  refine (HP.out _).mono ?_
  rintro e w3 ⟨rfl, hw3⟩
  rw [hw3]
  clear hw3 HP
  cases hb : plB fr
  · go_wp2_with fail
    go_ret
    exact ⟨by rw [hb]; rfl, HB2.out⟩
  have HPL := hid hb
  clear hb
  by_cases j1 : 0 ≤ tt
  case neg =>
    have e : inB 0 (m - 1) tt = false := inB_no (by omega)
    have d1 : decide ((0 : Int) ≤ tt) = false := decide_eq_false j1
    have E := hid e
    clear e j1
    go_wp2_with fail
    go_ret
    exact ⟨by rw [HPL.out, E.out]; rfl, HB2.out⟩
  have d1 : decide ((0 : Int) ≤ tt) = true := decide_eq_true j1
  by_cases j2 : tt < m
  case neg =>
    have e : inB 0 (m - 1) tt = false := inB_no (by omega)
    have d2 : decide (tt < m) = false := decide_eq_false j2
    have E := hid e
    clear e j1 j2
    go_wp2_with fail
    go_ret
    exact ⟨by rw [HPL.out, E.out]; rfl, HB2.out⟩
  have d2 : decide (tt < m) = true := decide_eq_true j2
  have e : inB 0 (m - 1) tt = true := inB_yes j1 (by omega)
  have E := hid e
  clear e j1 j2
  go_wp2_with fail
  refine (HN.out _).mono ?_
  rintro e w3 ⟨rfl, hw3⟩
  rw [hw3]
  clear hw3 HN
  cases hn : noB no
  · go_wp2_with fail
    go_ret
    exact ⟨by rw [HPL.out, E.out, hn]; rfl, HB2.out⟩
  · go_wp2_with fail
    go_ret
    exact ⟨by rw [HPL.out, E.out, hn]; rfl, HB2.out⟩
set_option maxHeartbeats 2000000 in
theorem goodPaper_2 (fr tt no m : Int) (w : World) : Calls Try.prog 74 #[.agg #[.int .i64 2, .int .i64 fr, .int .i64 tt, .int .i64 no], .int .i64 m] w fun e w' => e = .returned (.bool (plB tt && inB 0 (m - 1) fr && noB no)) ∧ Below w.heap.size w w' := by
  have HC := hid (fun v => endsOf_promise ⟨2, fr, tt, no⟩ v rfl)
  have HP := hid (fun v => isPlace_any tt v)
  have HN := hid (fun v => isNo_any no v)
  have HB := hid (boxB w (.cells #[.int .i64 2, .int .i64 fr, .int .i64 tt, .int .i64 no] 74))
  have HK := hid (heap_last w (.cells #[.int .i64 2, .int .i64 fr, .int .i64 tt, .int .i64 no] 74))
  go_enter Try.func74, Try.ntmps74
  go_upto_region 3 with fail
  generalize w.alloc (.cells #[.int .i64 2, .int .i64 fr, .int .i64 tt, .int .i64 no] 74) = W at *
  have x0 := box_cell HK.out 0
  have x1 := box_cell HK.out 1
  have x2 := box_cell HK.out 2
  have x3 := box_cell HK.out 3
  go_wp2_with fail
  refine (HC.out _).mono ?_
  rintro e w2 ⟨rfl, b2⟩
  have HB2 := hid (HB.out.trans (b2.mono HB.out.size))
  have HK2 := hid ((b2.block _ (kbox HK.out)).trans HK.out)
  clear x0 x1 x2 x3 b2 HB HK HC
  have x3 := box_cell HK2.out 3
  go_wp2_with fail
  refine (HP.out _).mono ?_
  rintro e w3 ⟨rfl, hw3⟩
  rw [hw3]
  clear hw3 HP
  cases hb : plB tt
  · go_wp2_with fail
    go_ret
    exact ⟨by rw [hb]; rfl, HB2.out⟩
  have HPL := hid hb
  clear hb
  by_cases j1 : 0 ≤ fr
  case neg =>
    have e : inB 0 (m - 1) fr = false := inB_no (by omega)
    have d1 : decide ((0 : Int) ≤ fr) = false := decide_eq_false j1
    have E := hid e
    clear e j1
    go_wp2_with fail
    go_ret
    exact ⟨by rw [HPL.out, E.out]; rfl, HB2.out⟩
  have d1 : decide ((0 : Int) ≤ fr) = true := decide_eq_true j1
  by_cases j2 : fr < m
  case neg =>
    have e : inB 0 (m - 1) fr = false := inB_no (by omega)
    have d2 : decide (fr < m) = false := decide_eq_false j2
    have E := hid e
    clear e j1 j2
    go_wp2_with fail
    go_ret
    exact ⟨by rw [HPL.out, E.out]; rfl, HB2.out⟩
  have d2 : decide (fr < m) = true := decide_eq_true j2
  have e : inB 0 (m - 1) fr = true := inB_yes j1 (by omega)
  have E := hid e
  clear e j1 j2
  go_wp2_with fail
  refine (HN.out _).mono ?_
  rintro e w3 ⟨rfl, hw3⟩
  rw [hw3]
  clear hw3 HN
  cases hn : noB no
  · go_wp2_with fail
    go_ret
    exact ⟨by rw [HPL.out, E.out, hn]; rfl, HB2.out⟩
  · go_wp2_with fail
    go_ret
    exact ⟨by rw [HPL.out, E.out, hn]; rfl, HB2.out⟩
set_option maxHeartbeats 2000000 in
theorem goodPaper_any (p : Pp) (m : Int) (w : World) : Calls Try.prog 74 #[.agg #[.int .i64 p.kd, .int .i64 p.fr, .int .i64 p.tt, .int .i64 p.no], .int .i64 m] w fun e w' => e = .returned (.bool (ppB m p)) ∧ Below w.heap.size w w' := by
  obtain ⟨kd, fr, tt, no⟩ := p
  by_cases k1 : kd = 1
  · subst k1
    exact goodPaper_1 fr tt no m w
  · by_cases k2 : kd = 2
    · subst k2
      exact goodPaper_2 fr tt no m w
    · have e : ppB m ⟨kd, fr, tt, no⟩ = false := by unfold ppB; rw [if_neg k1, if_neg k2]
      rw [e]
      clear e
      show Calls Try.prog 74 #[.agg #[.int .i64 kd, .int .i64 fr, .int .i64 tt, .int .i64 no], .int .i64 m] w _
      have d1 : (kd != 1) = true := bne_iff_ne.2 k1
      have d2 : (kd != 2) = true := bne_iff_ne.2 k2
      have d3 : (kd == 1) = false := beq_eq_false_iff_ne.2 k1
      have d4 : (kd == 2) = false := beq_eq_false_iff_ne.2 k2
      have d5 : decide (kd = 1) = false := decide_eq_false k1
      have d6 : decide (kd = 2) = false := decide_eq_false k2
      have HB := hid (boxB w (.cells #[.int .i64 kd, .int .i64 fr, .int .i64 tt, .int .i64 no] 74))
      clear k1 k2
      go_enter Try.func74, Try.ntmps74
      go_wp2_with fail
      go_ret
      exact ⟨rfl, HB.out⟩
end Go.Proofs.Ytikmkkklgdkpaaa
