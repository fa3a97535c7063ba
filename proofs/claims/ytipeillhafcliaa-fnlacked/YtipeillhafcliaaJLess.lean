/- LessSums: the program and the model. -/
import Derived.Test.YtipeillhafcliaaJO
import Derived.Deep.RegionHeldLaw
namespace Go.Proofs.Ytipeillhafcliaa
set_option maxRecDepth 100000
open Go Go.ChangeShapes Go.WideShapes Go.ChangeAt Go.RowKit
theorem IRow.drewI {R : Nat} {l : List Int} {w : World} (h : IRow R l w) : IRow R l w.drew := GRow.drew h
/-- one list less the other -/
def lessL (a b : List Int) : List Int := List.zipWith (fun x y => x - y) a b
def pairOk (a b : List Int) : Bool := (decide (a.length = b.length) && goodN a) && goodN b
def lessOk (a b : List Int) : Bool := pairOk a b && goodN (lessL a b)
def lessV (a b : List Int) : List Int := bif lessOk a b then lessL a b else []
theorem lessV_yes {a b : List Int} (h : lessOk a b = true) : lessV a b = lessL a b := by unfold lessV; rw [h]; rfl
theorem lessV_no {a b : List Int} (h : lessOk a b = false) : lessV a b = [] := by unfold lessV; rw [h]; rfl
theorem lessL_len {a b : List Int} (h : a.length = b.length) : (lessL a b).length = a.length := by unfold lessL; rw [List.length_zipWith]; omega
theorem lessL_at {a b : List Int} (k : Nat) (h1 : k < a.length) (h2 : k < b.length) (h : k < (lessL a b).length) : (lessL a b)[k] = a[k] - b[k] := by simp [lessL]
theorem lessL_take {a b : List Int} (h : a.length = b.length) (k : Nat) (hk : k < a.length) : (lessL a b).take (k + 1) = (lessL a b).take k ++ [a[k] - b[k]'(by omega)] := by
  have h3 : k < (lessL a b).length := by rw [lessL_len h]; exact hk
  rw [take_snoc _ k h3, lessL_at k hk (by omega) h3]
theorem lessV_len (a b : List Int) : (lessV a b).length ≤ 1048576 := by
  cases h : lessOk a b
  · rw [lessV_no h]; exact Nat.zero_le _
  · rw [lessV_yes h]
    unfold lessOk at h
    rw [Bool.and_eq_true] at h
    have := goodN_len h.2
    omega
theorem step_append_run {P : Program} {ops : Array Oper} {o : Oper} {a : Act} {w : World} {K : Act → World → Prop} {Q : Exit → Act → World → Prop} {E : Prop}
    (hg : o.guard = none) (s x : Operand) (t : TypeId) (hop : o.op = Op.call { callee := Callee.builtin Builtin.append, args := #[s, x], argTypes := #[t, t] })
    (v y : Value) (hs : a.eval s = v) (hx : a.eval x = y) (v' : Value) (w' : World) (hrun : ∀ ty, (Builtin.append_ #[t, t] ty #[v, y]).run P w = .ok v' w') (hK : K (a.put o.dst v') w') :
    if Region.wanted o (yielded ops a.tmps) = true then Oper.wp P o a w K Q else E := by
  have hw : Region.wanted o (yielded ops a.tmps) = true := by simp [Region.wanted, hg]
  rw [if_pos hw]
  unfold Oper.wp
  simp [execOp, hop, resolve, invoke, builtin, hs, hx, hrun, Result.andThen]
  exact hK
theorem pair_no1 {a b : List Int} (h : a.length ≠ b.length) : lessOk a b = false := by unfold lessOk pairOk; rw [decide_eq_false h]; rfl
theorem pair_no2 {a b : List Int} (h : goodN a = false) : lessOk a b = false := by unfold lessOk pairOk; rw [h, Bool.and_false]; rfl
theorem pair_no3 {a b : List Int} (h : goodN b = false) : lessOk a b = false := by unfold lessOk pairOk; rw [h, Bool.and_false]; rfl
theorem pair_yes {a b : List Int} (h0 : a.length = b.length) (h1 : goodN a = true) (h2 : goodN b = true) : lessOk a b = goodN (lessL a b) := by unfold lessOk pairOk; rw [decide_eq_true h0, h1, h2]; rfl
set_option maxHeartbeats 2000000 in
theorem iLess_any (pa pb : Option Addr) (ca cb : Nat) (a b : List Int) (w : World) (hna : a.length ≤ 1048576) (hnb : b.length ≤ 1048576) (hA : Is w.heap.size pa a w) (hB : Is w.heap.size pb b w) :
    Calls Try.prog 17 #[.slice pa a.length ca, .slice pb b.length cb] w (JOut (lessV a b) (lessOk a b) w) := by
  have GA := hid (goodTerms_any pa ca a w hna hA)
  have GB := hid (goodTerms_any pb cb b w hnb hB)
  by_cases hl : a.length = b.length
  case neg =>
    rw [lessV_no (pair_no1 hl), pair_no1 hl]
    have d1 : ((a.length : Int) != (b.length : Int)) = true := bne_iff_ne.2 (by omega)
    clear hl
    go_enter Try.func17, Try.ntmps17
    go_wp2
    go_ret2
    exact JOut.no (Below.refl _ _)
  have HL := hid hl
  have d1 : ((a.length : Int) != (b.length : Int)) = false := by rw [hl]; simp
  cases hga : goodN a
  · rw [lessV_no (pair_no2 hga), pair_no2 hga]
    rw [hga] at GA
    clear hl
    go_enter Try.func17, Try.ntmps17
    go_wp2_with fail
    refine GA.out.mono ?_
    rintro e w2 ⟨rfl, hw2⟩
    rw [hw2]
    clear hw2
    go_wp2
    go_ret2
    exact JOut.no (Below.refl _ _)
  cases hgb : goodN b
  · rw [lessV_no (pair_no3 hgb), pair_no3 hgb]
    rw [hga] at GA
    rw [hgb] at GB
    clear hl
    go_enter Try.func17, Try.ntmps17
    go_wp2_with fail
    refine GA.out.mono ?_
    rintro e w2 ⟨rfl, hw2⟩
    rw [hw2]
    clear hw2
    go_wp2_with fail
    refine GB.out.mono ?_
    rintro e w2 ⟨rfl, hw2⟩
    rw [hw2]
    clear hw2
    go_wp2
    go_ret2
    exact JOut.no (Below.refl _ _)
  have HO := hid (pair_yes hl hga hgb)
  have HLL := hid (lessL_len hl)
  have HLT : Hid (∀ k (hk : k < a.length) (hk2 : k < b.length), (lessL a b).take (k + 1) = (lessL a b).take k ++ [a[k] - b[k]]) := fun k hk _ => lessL_take hl k hk
  have HGA := hid (goodN_at hga)
  have HGB := hid (goodN_at hgb)
  have HA := hid hA
  have HB := hid hB
  rw [hga] at GA
  rw [hgb] at GB
  have ha4 := goodN_len hga
  have hmk := make_ints a.length hna
  have hr0 := IRow.made w a.length
  generalize madeCells (Value.int .i64 0).cells a.length = M at *
  have HR := hid hr0
  clear hr0 hl hga hgb hA hB
  go_enter Try.func17, Try.ntmps17
  go_wp2_with fail
  refine GA.out.mono ?_
  rintro e w2 ⟨rfl, hw2⟩
  rw [hw2]
  clear hw2
  go_wp2_with fail
  refine GB.out.mono ?_
  rintro e w2 ⟨rfl, hw2⟩
  rw [hw2]
  clear hw2
  go_wp2
  go_loopw [28] (fun i wr => ∃ (k : Nat) (ys : List Int), k ≤ a.length ∧ i = .int .i64 k ∧ ys.length = a.length ∧ ys.take k = (lessL a b).take k ∧ IRow w.heap.size ys wr ∧ Below w.heap.size w wr) (fun i _ => a.length - (intOf i).toNat)
  case atStart => exact ⟨0, List.replicate a.length 0, Nat.zero_le _, rfl, by simp, rfl, HR.out, (Below.refl _ _).alloc (Nat.le_refl _) _⟩
  case round =>
    obtain ⟨k, ys, hk, rfl, hy, htk, hrow, hbel⟩ := hrel
    have HROW := hid hrow
    have HBEL := hid hbel
    have HTK := hid htk
    by_cases hlt : k < a.length
    · have hlb : k < b.length := by have := HL.out; omega
      obtain ⟨b1, o1, rfl, hb1, hc1⟩ := HA.out.cell (by omega)
      obtain ⟨b2, o2, rfl, hb2, hc2⟩ := HB.out.cell (by omega)
      have x0 := (hbel.cell (p := ⟨b1, o1 + k, none⟩) hb1).trans (hc1 k hlt)
      have y0 := (hbel.cell (p := ⟨b2, o2 + k, none⟩) hb2).trans (hc2 k hlb)
      have z0 := hrow.cell k (by omega)
      have f0 := hrow.free k (by omega)
      have HT := hid (HLT.out k hlt hlb)
      have p1 := HGA.out k hlt
      have p2 := HGB.out k hlb
      have hwr : IntKind.i64.wrap (a[k] - b[k]) = a[k] - b[k] := by rw [IntKind.wrap_i64]; omega
      have i1 : (k : Int) < (a.length : Int) := by omega
      have i2 : (k : Int) < (b.length : Int) := by omega
      have HS : Hid ((ys.set k (a[k] - b[k])).take (k + 1) = (lessL a b).take (k + 1)) := by
        show (ys.set k (a[k] - b[k])).take (k + 1) = _
        have hky : k < ys.length := by omega
        rw [take_snoc _ k (by simpa using hky), List.take_set_of_le (Nat.le_refl _), List.getElem_set_self, HTK.out, HT.out]
      clear hc1 hc2 hrow hbel htk p1 p2
      generalize a[k] = x at *
      generalize b[k] = y at *
      generalize ys[k] = yd at *
      go_wp2_with fail
      go_big_region
      go_wp2
      go_roundw
      case rel => exact ⟨k + 1, ys.set k (x - y), by omega, by go_num, by simpa using hy, HS.out, (HROW.out.set k (by omega) _).drewI, (HBEL.out.setCell (Nat.le_refl _) _).drew⟩
      case measure => simp [intOf]; omega
    · obtain rfl : k = a.length := by omega
      have hys : ys = lessL a b := by
        have h2 := HLL.out
        rw [List.take_of_length_le (by omega), List.take_of_length_le (by omega)] at htk
        exact htk
      subst hys
      have GN := hid (goodTerms_any (some ⟨w.heap.size, 0, none⟩) a.length (lessL a b) wr (by rw [HLL.out]; omega) (hrow.sl hrow.lt))
      clear hrow hbel
      rw [HLL.out] at GN
      go_wp2_with fail
      refine GN.out.mono ?_
      rintro e w2 ⟨rfl, hw2⟩
      rw [hw2]
      clear hw2
      cases hg : goodN (lessL a b)
      · rw [hg] at HO
        go_wp2
        go_ret2
        rw [lessV_no HO.out, HO.out]
        exact JOut.no HBEL.out
      · rw [hg] at HO
        go_wp2
        go_ret2
        rw [lessV_yes HO.out, HO.out]
        exact JOut.row HROW.out (Nat.le_refl _) HBEL.out HLL.out
/-- all that came behind world w -/
def BW (wo W : World) : Prop := Below wo.heap.size wo W
set_option maxHeartbeats 2000000 in
theorem sLess_any (pa pb : Option Addr) (ca cb : Nat) (a b : List Int) (w : World) (hna : a.length ≤ 1048576) (hnb : b.length ≤ 1048576) (hA : Is w.heap.size pa a w) (hB : Is w.heap.size pb b w) :
    Calls Try.prog 18 #[.slice pa a.length ca, .slice pb b.length cb] w (JOut (lessV a b) (lessOk a b) w) := by
  have GA := hid (l12Numbers_any pa ca a w hna hA)
  have GB := hid (l12Numbers_any pb cb b w hnb hB)
  cases hga : goodN a
  · rw [lessV_no (pair_no2 hga), pair_no2 hga]
    rw [hga] at GA
    go_enter Try.func18, Try.ntmps18
    go_wp2_with fail
    refine GA.out.mono ?_
    rintro e w2 ⟨rfl, hw2⟩
    rw [hw2]
    clear hw2
    go_wp2
    go_ret2
    exact JOut.no (Below.refl _ _)
  cases hgb : goodN b
  · rw [lessV_no (pair_no3 hgb), pair_no3 hgb]
    rw [hga] at GA
    rw [hgb] at GB
    go_enter Try.func18, Try.ntmps18
    go_wp2_with fail
    refine GA.out.mono ?_
    rintro e w2 ⟨rfl, hw2⟩
    rw [hw2]
    clear hw2
    go_wp2_with fail
    refine GB.out.mono ?_
    rintro e w2 ⟨rfl, hw2⟩
    rw [hw2]
    clear hw2
    go_wp2
    go_ret2
    exact JOut.no (Below.refl _ _)
  have GA1 := GA
  have GB1 := GB
  rw [hga] at GA
  rw [hgb] at GB
  by_cases hl : a.length = b.length
  case neg =>
    rw [lessV_no (pair_no1 hl), pair_no1 hl]
    have d1 : ((a.length : Int) != (b.length : Int)) = true := bne_iff_ne.2 (by omega)
    clear hl
    go_enter Try.func18, Try.ntmps18
    go_wp2_with fail
    refine GA.out.mono ?_
    rintro e w2 ⟨rfl, hw2⟩
    rw [hw2]
    clear hw2
    go_wp2_with fail
    refine GB.out.mono ?_
    rintro e w2 ⟨rfl, hw2⟩
    rw [hw2]
    clear hw2
    go_wp2
    go_ret2
    exact JOut.no (Below.refl _ _)
  have HL := hid hl
  have d1 : ((a.length : Int) != (b.length : Int)) = false := by rw [hl]; simp
  have HO := hid (pair_yes hl hga hgb)
  have HLL := hid (lessL_len hl)
  have HLT : Hid (∀ k (hk : k < a.length) (hk2 : k < b.length), (lessL a b).take (k + 1) = (lessL a b).take k ++ [a[k] - b[k]]) := fun k hk _ => lessL_take hl k hk
  have HGA := hid (goodN_at hga)
  have HGB := hid (goodN_at hgb)
  have HA := hid hA
  have HB := hid hB
  have ha4 := goodN_len hga
  clear hl hga hgb hA hB GA1 GB1
  go_enter Try.func18, Try.ntmps18
  go_wp2_with fail
  refine GA.out.mono ?_
  rintro e w2 ⟨rfl, hw2⟩
  rw [hw2]
  clear hw2
  go_wp2_with fail
  refine GB.out.mono ?_
  rintro e w2 ⟨rfl, hw2⟩
  rw [hw2]
  clear hw2
  go_wp2
  go_loopw [6, 25] (fun o i wr => ∃ (k : Nat) (o1 : Value), k ≤ a.length ∧ i = .int .i64 k ∧ o = o1 ∧ AL w.heap.size o1 ((lessL a b).take k) wr ∧ Below w.heap.size w wr) (fun _ i _ => a.length - (intOf i).toNat)
  case atStart => exact ⟨0, _, Nat.zero_le _, rfl, rfl, AL.nil _ _, Below.refl _ _⟩
  case round =>
    obtain ⟨k, _, hk, rfl, rfl, hown, hbel⟩ := hrel
    have HOWN := hid hown
    have HBEL := hid hbel
    have hszr := hbel.size
    by_cases hlt : k < a.length
    · have hlb : k < b.length := by have := HL.out; omega
      obtain ⟨b1, o1, rfl, hb1, hc1⟩ := HA.out.cell (by omega)
      obtain ⟨b2, o2, rfl, hb2, hc2⟩ := HB.out.cell (by omega)
      have HS : Hid (∀ v, BW w v → v.cell? ⟨b1, o1 + k, none⟩ = some (.int .i64 a[k]) ∧ v.cell? ⟨b2, o2 + k, none⟩ = some (.int .i64 b[k])) := fun v g =>
        ⟨(Below.cell g (p := ⟨b1, o1 + k, none⟩) hb1).trans (hc1 k hlt), (Below.cell g (p := ⟨b2, o2 + k, none⟩) hb2).trans (hc2 k hlb)⟩
      have HT := hid (HLT.out k hlt hlb)
      have p1 := HGA.out k hlt
      have p2 := HGB.out k hlb
      have hwr : IntKind.i64.wrap (a[k] - b[k]) = a[k] - b[k] := by rw [IntKind.wrap_i64]; omega
      have i1 : (k : Int) < (a.length : Int) := by omega
      have i2 : (k : Int) < (b.length : Int) := by omega
      have hll : ((lessL a b).take k).length ≤ 4 := by rw [List.length_take]; omega
      obtain ⟨v', w', r1, o1', g1, z1, gb, -⟩ := (hown.below (Below.drew (Below.refl _ wr))).push (lo := w.heap.size) (w := wr.drew) hszr (a[k] - b[k]) (by omega)
      have HO1 : Hid (AL w.heap.size v' ((lessL a b).take (k + 1)) w') := by show AL _ _ _ _; rw [HT.out]; exact o1'
      have A0 : BW w wr.drew := hbel.drew
      have A1 : BW w (wr.alloc (.cells #[.int .i64 (a[k] - b[k])] 3)).drew := Below.trans A0 ((boxB wr.drew _).mono A0.size)
      have r1 : ∀ ty, (Builtin.append_ #[23, 23] ty #[u6, .slice (some ⟨wr.heap.size, 0, none⟩) 1 1]).run Try.prog (wr.alloc (.cells #[.int .i64 (a[k] - b[k])] 3)).drew = .ok v' w' := r1
      have A2 : BW w w' := Below.trans A0 g1
      have HB2 : Hid (Below w.heap.size w w') := A2
      clear hc1 hc2 hown hbel p1 p2 o1' g1 z1 gb HT hll
      generalize a[k] = x at *
      generalize b[k] = y at *
      go_wp2_with fail
      go_region_held_law (fun v => v.cell? ⟨b1, o1 + k, none⟩ = some (.int .i64 x) ∧ v.cell? ⟨b2, o2 + k, none⟩ = some (.int .i64 y)) (first | exact HS.out _ (by with_reducible assumption)) (first | (refine step_append_run rfl _ _ 23 rfl _ _ rfl rfl _ _ r1 ?_))
      all_goals
        go_wp2
        go_roundw
        case rel => exact ⟨k + 1, _, by omega, by go_num, rfl, HO1.out, HB2.out⟩
        case measure => simp [intOf]; omega
    · obtain rfl : k = a.length := by omega
      have hall : (lessL a b).take a.length = lessL a b := List.take_of_length_le (by have := HLL.out; omega)
      rw [hall] at HOWN
      obtain ⟨pb', cb', e, ho, hcb⟩ := HOWN.out.own
      subst e
      have GN := hid (l12Numbers_any pb' cb' (lessL a b) wr (by rw [HLL.out]; omega) ho.is)
      clear hown hbel ho hall
      go_wp2_with fail
      refine GN.out.mono ?_
      rintro e w2 ⟨rfl, hw2⟩
      rw [hw2]
      clear hw2
      cases hg : goodN (lessL a b)
      · rw [hg] at HO
        go_wp2
        go_ret2
        rw [lessV_no HO.out, HO.out]
        exact JOut.no HBEL.out
      · rw [hg] at HO
        go_wp2
        go_ret2
        rw [lessV_yes HO.out, HO.out]
        exact JOut.yes HOWN.out HBEL.out
end Go.Proofs.Ytipeillhafcliaa
