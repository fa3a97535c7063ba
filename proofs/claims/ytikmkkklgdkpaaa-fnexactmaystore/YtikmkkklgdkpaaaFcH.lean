/- Who has won a number, who may store: both sides. -/
import Derived.Test.YtikmkkklgdkpaaaFcS
namespace Go.Proofs.Ytikmkkklgdkpaaa
set_option maxRecDepth 100000
open Go Go.ChangeShapes Go.WideShapes Go.ChangeAt Go.RowKit
/-- the place of the first that has a number -/
def winL (no : Int) : List (List Int) → Option Int
  | [] => none
  | x :: r => if x.getD 0 0 = no then some (x.getD 1 0) else winL no r
def hasL (no pl : Int) : List (List Int) → Bool
  | [] => false
  | x :: r => if x.getD 0 0 = no ∧ x.getD 1 0 = pl then true else hasL no pl r
theorem winL_step (no : Int) (L : List (List Int)) (k : Nat) (h : k < L.length) : winL no (L.drop k) = if L[k].getD 0 0 = no then some (L[k].getD 1 0) else winL no (L.drop (k + 1)) := by
  rw [List.drop_eq_getElem_cons h]; rfl
theorem hasL_step (no pl : Int) (L : List (List Int)) (k : Nat) (h : k < L.length) : hasL no pl (L.drop k) = if L[k].getD 0 0 = no ∧ L[k].getD 1 0 = pl then true else hasL no pl (L.drop (k + 1)) := by
  rw [List.drop_eq_getElem_cons h]; rfl
theorem prOk_two {L : List (List Int)} (h : prOk L = true) (k : Nat) (hk : k < L.length) : L[k].length = 2 := by
  unfold prOk at h
  rw [Bool.and_eq_true] at h
  have := all_at h.2 k hk
  unfold prB at this
  rw [Bool.and_eq_true, Bool.and_eq_true] at this
  exact of_decide_eq_true this.1.1
def winV (X : Fc) (no : Int) : Int := if goodF X then (winL no X.wn).getD 0 else 0
def winB (X : Fc) (no : Int) : Bool := goodF X && (winL no X.wn).isSome
/-- a pair, opened -/
theorem pair_at {B : Nat} {a : Option Addr} {s : List Int} {w : World} (h : Is B a s w) (h2 : s.length = 2) : ∃ b off n0 n1, a = some ⟨b, off, none⟩ ∧ s = [n0, n1] ∧ w.cell? ⟨b, off, none⟩ = some (.int .i64 n0) ∧ w.cell? ⟨b, off + 1, none⟩ = some (.int .i64 n1) := by
  obtain ⟨n0, n1, rfl⟩ : ∃ n0 n1, s = [n0, n1] := by
    match s, h2 with
    | [x, y], _ => exact ⟨x, y, rfl⟩
  obtain ⟨b, off, rfl, hb, hc⟩ := h.cell (Nat.succ_pos _)
  have y0 := hc 0 (Nat.succ_pos _)
  have y1 := hc 1 (Nat.lt_succ_self 1)
  rw [Nat.add_zero] at y0
  exact ⟨b, off, n0, n1, rfl, rfl, y0, y1⟩
set_option maxHeartbeats 4000000 in
theorem hasPair_any (a : Option Addr) (ka : Nat) (L : List (List Int)) (no pl : Int) (w : World) (hn : L.length ≤ 1048576) (h2 : ∀ k (h : k < L.length), L[k].length = 2) (hZ : Js w.heap.size a L w) :
    Calls Try.prog 68 #[.slice a L.length ka, .int .i64 no, .int .i64 pl] w fun e w' => e = .returned (.bool (hasL no pl L)) ∧ w' = w := by
  have HZ := hid hZ
  have H2 := hid h2
  clear hZ h2
  go_enter Try.func68, Try.ntmps68
  go_wp2_with fail
  go_loopw [11] (fun i wr => ∃ k : Nat, k ≤ L.length ∧ i = .int .i64 k ∧ hasL no pl (L.drop k) = hasL no pl L ∧ wr = w) (fun i _ => L.length - (intOf i).toNat)
  case atStart => exact ⟨0, Nat.zero_le _, rfl, rfl, rfl⟩
  case round =>
    obtain ⟨k, hk, rfl, hv, hwr⟩ := hrel
    obtain rfl := hwr.symm
    have HV := hid hv
    clear hv
    by_cases hlt : k < L.length
    · obtain ⟨b, off, rfl, hb, hc⟩ := HZ.out.cell (by omega)
      obtain ⟨q, cq, x0, hI⟩ := hc k hlt
      have ES := hid (hasL_step no pl L k hlt)
      have hm := H2.out k hlt
      clear hc
      generalize L[k] = s at *
      obtain ⟨b2, off2, n0, n1, rfl, rfl, y0, y1⟩ := pair_at hI hm
      have x0' : w.cell? ⟨b, off + k, none⟩ = some (.slice (some ⟨b2, off2, none⟩) 2 cq) := x0
      have EA : Hid (hasL no pl (L.drop k) = if n0 = no ∧ n1 = pl then true else hasL no pl (L.drop (k + 1))) := ES.out
      clear hI hm x0 ES
      by_cases h0 : n0 = no
      · have d1 : (n0 == no) = true := beq_iff_eq.2 h0
        have d2 : decide (n0 = no) = true := decide_eq_true h0
        by_cases h1 : n1 = pl
        · have d3 : (n1 == pl) = true := beq_iff_eq.2 h1
          have d4 : decide (n1 = pl) = true := decide_eq_true h1
          have HE : Hid (hasL no pl L = true) := by show hasL no pl L = true; rw [← HV.out, EA.out, if_pos ⟨h0, h1⟩]
          clear h0 h1
          go_wp2_with fail
          go_ret
          exact ⟨ret_b2 HE.out.symm, rfl⟩
        · have d3 : (n1 == pl) = false := beq_eq_false_iff_ne.2 h1
          have d4 : decide (n1 = pl) = false := decide_eq_false h1
          have HE : Hid (hasL no pl (L.drop (k + 1)) = hasL no pl L) := by show hasL no pl (L.drop (k + 1)) = _; rw [← HV.out, EA.out, if_neg (fun h => h1 h.2)]
          clear h0 h1
          go_wp2_with fail
          go_roundw
          case rel => exact ⟨k + 1, by omega, by go_num, HE.out, by trivial⟩
          case measure => simp [intOf]; omega
      · have d1 : (n0 == no) = false := beq_eq_false_iff_ne.2 h0
        have d2 : decide (n0 = no) = false := decide_eq_false h0
        have HE : Hid (hasL no pl (L.drop (k + 1)) = hasL no pl L) := by show hasL no pl (L.drop (k + 1)) = _; rw [← HV.out, EA.out, if_neg (fun h => h0 h.1)]
        clear h0
        go_wp2_with fail
        go_roundw
        case rel => exact ⟨k + 1, by omega, by go_num, HE.out, by trivial⟩
        case measure => simp [intOf]; omega
    · obtain rfl : k = L.length := by omega
      have HE : Hid (hasL no pl L = false) := by show hasL no pl L = false; rw [← HV.out, List.drop_length]; rfl
      go_wp2_with fail
      go_ret
      exact ⟨ret_b2 HE.out.symm, rfl⟩
set_option maxHeartbeats 4000000 in
theorem l13Has_any (a : Option Addr) (ka : Nat) (L : List (List Int)) (no pl : Int) (w : World) (hn : L.length ≤ 1048576) (h2 : ∀ k (h : k < L.length), L[k].length = 2) (hZ : Js w.heap.size a L w) :
    Calls Try.prog 85 #[.slice a L.length ka, .int .i64 no, .int .i64 pl] w fun e w' => e = .returned (.bool (hasL no pl L)) ∧ w' = w := by
  have HZ := hid hZ
  have H2 := hid h2
  clear hZ h2
  go_enter Try.func85, Try.ntmps85
  go_wp2_with fail
  go_loopw [11] (fun i wr => ∃ k : Nat, k ≤ L.length ∧ i = .int .i64 k ∧ hasL no pl (L.drop k) = hasL no pl L ∧ wr = w) (fun i _ => L.length - (intOf i).toNat)
  case atStart => exact ⟨0, Nat.zero_le _, rfl, rfl, rfl⟩
  case round =>
    obtain ⟨k, hk, rfl, hv, hwr⟩ := hrel
    obtain rfl := hwr.symm
    have HV := hid hv
    clear hv
    by_cases hlt : k < L.length
    · obtain ⟨b, off, rfl, hb, hc⟩ := HZ.out.cell (by omega)
      obtain ⟨q, cq, x0, hI⟩ := hc k hlt
      have ES := hid (hasL_step no pl L k hlt)
      have hm := H2.out k hlt
      clear hc
      generalize L[k] = s at *
      obtain ⟨b2, off2, n0, n1, rfl, rfl, y0, y1⟩ := pair_at hI hm
      have x0' : w.cell? ⟨b, off + k, none⟩ = some (.slice (some ⟨b2, off2, none⟩) 2 cq) := x0
      have EA : Hid (hasL no pl (L.drop k) = if n0 = no ∧ n1 = pl then true else hasL no pl (L.drop (k + 1))) := ES.out
      clear hI hm x0 ES
      by_cases h0 : n0 = no
      · have d1 : (n0 == no) = true := beq_iff_eq.2 h0
        have d2 : decide (n0 = no) = true := decide_eq_true h0
        by_cases h1 : n1 = pl
        · have d3 : (n1 == pl) = true := beq_iff_eq.2 h1
          have d4 : decide (n1 = pl) = true := decide_eq_true h1
          have HE : Hid (hasL no pl L = true) := by show hasL no pl L = true; rw [← HV.out, EA.out, if_pos ⟨h0, h1⟩]
          clear h0 h1
          go_wp2_with fail
          go_ret
          exact ⟨ret_b2 HE.out.symm, rfl⟩
        · have d3 : (n1 == pl) = false := beq_eq_false_iff_ne.2 h1
          have d4 : decide (n1 = pl) = false := decide_eq_false h1
          have HE : Hid (hasL no pl (L.drop (k + 1)) = hasL no pl L) := by show hasL no pl (L.drop (k + 1)) = _; rw [← HV.out, EA.out, if_neg (fun h => h1 h.2)]
          clear h0 h1
          go_wp2_with fail
          go_roundw
          case rel => exact ⟨k + 1, by omega, by go_num, HE.out, by trivial⟩
          case measure => simp [intOf]; omega
      · have d1 : (n0 == no) = false := beq_eq_false_iff_ne.2 h0
        have d2 : decide (n0 = no) = false := decide_eq_false h0
        have HE : Hid (hasL no pl (L.drop (k + 1)) = hasL no pl L) := by show hasL no pl (L.drop (k + 1)) = _; rw [← HV.out, EA.out, if_neg (fun h => h0 h.1)]
        clear h0
        go_wp2_with fail
        go_roundw
        case rel => exact ⟨k + 1, by omega, by go_num, HE.out, by trivial⟩
        case measure => simp [intOf]; omega
    · obtain rfl : k = L.length := by omega
      have HE : Hid (hasL no pl L = false) := by show hasL no pl L = false; rw [← HV.out, List.drop_length]; rfl
      go_wp2_with fail
      go_ret
      exact ⟨ret_b2 HE.out.symm, rfl⟩
set_option maxHeartbeats 8000000 in
theorem sWinner_any (A : Af) (X : Fc) (no : Int) (w : World) (hf : FitF X) (h : FR w.heap.size A X w) :
    Calls Try.prog 30 #[.agg #[.slice A.j X.jd.length A.kj, .slice A.g X.gv.length A.kg, .slice A.p X.pl.length A.kp, .slice A.v X.vt.length A.kv, .slice A.n X.wn.length A.kn, .slice A.l X.ln.length A.kl, .int .i64 X.sn, .slice A.s X.st.length A.ks], .int .i64 no] w fun e w' => e = .returned (.tuple #[.int .i64 (winV X no), .bool (winB X no)]) ∧ Below w.heap.size w w' := by
  have HB := hid (boxB w (.cells #[.slice A.j X.jd.length A.kj, .slice A.g X.gv.length A.kg, .slice A.p X.pl.length A.kp, .slice A.v X.vt.length A.kv, .slice A.n X.wn.length A.kn, .slice A.l X.ln.length A.kl, .int .i64 X.sn, .slice A.s X.st.length A.ks] 26))
  have HK := hid (heap_last w (.cells #[.slice A.j X.jd.length A.kj, .slice A.g X.gv.length A.kg, .slice A.p X.pl.length A.kp, .slice A.v X.vt.length A.kv, .slice A.n X.wn.length A.kn, .slice A.l X.ln.length A.kl, .int .i64 X.sn, .slice A.s X.st.length A.ks] 26))
  have HZ : Hid (∀ v, Below w.heap.size w v → FR v.heap.size A X v) := fun v g => h.up g g.size
  have HF := hid hf
  have n1 := hf.n.1
  have EV : Hid (winV X no = if goodF X then (winL no X.wn).getD 0 else 0) := rfl
  have EB : Hid (winB X no = (goodF X && (winL no X.wn).isSome)) := rfl
  clear h hf
  go_enter Try.func30, Try.ntmps30
  go_upto_region 1 with fail
  generalize w.alloc (.cells #[.slice A.j X.jd.length A.kj, .slice A.g X.gv.length A.kg, .slice A.p X.pl.length A.kp, .slice A.v X.vt.length A.kv, .slice A.n X.wn.length A.kn, .slice A.l X.ln.length A.kl, .int .i64 X.sn, .slice A.s X.st.length A.ks] 26) = W at *
  have HC := hid (sgoodF_any A X W HF.out (HZ.out W HB.out))
  have HG : Hid (goodF X = true → ∀ k (h : k < X.wn.length), X.wn[k].length = 2) := fun h => prOk_two (goodF_gf h).wn
  have x0 : W.cell? ⟨w.heap.size, 0, none⟩ = some (.slice A.j X.jd.length A.kj) := box_cell HK.out 0
  have x1 : W.cell? ⟨w.heap.size, 1, none⟩ = some (.slice A.g X.gv.length A.kg) := box_cell HK.out 1
  have x2 : W.cell? ⟨w.heap.size, 2, none⟩ = some (.slice A.p X.pl.length A.kp) := box_cell HK.out 2
  have x3 : W.cell? ⟨w.heap.size, 3, none⟩ = some (.slice A.v X.vt.length A.kv) := box_cell HK.out 3
  have x4 : W.cell? ⟨w.heap.size, 4, none⟩ = some (.slice A.n X.wn.length A.kn) := box_cell HK.out 4
  have x5 : W.cell? ⟨w.heap.size, 5, none⟩ = some (.slice A.l X.ln.length A.kl) := box_cell HK.out 5
  have x6 : W.cell? ⟨w.heap.size, 6, none⟩ = some (.int .i64 X.sn) := box_cell HK.out 6
  have x7 : W.cell? ⟨w.heap.size, 7, none⟩ = some (.slice A.s X.st.length A.ks) := box_cell HK.out 7
  go_wp2_with fail
  refine HC.out.mono ?_
  rintro e w2 ⟨rfl, b2⟩
  have HB2 := hid (HB.out.trans (b2.mono HB.out.size))
  have HK2 := hid ((b2.block _ (kbox HK.out)).trans HK.out)
  clear b2 HC x0 x1 x2 x3 x4 x5 x6 x7
  cases hg : goodF X
  · have E1 : Hid (winV X no = 0) := by show winV X no = 0; rw [EV.out, hg]; rfl
    have E2 : Hid (winB X no = false) := by show winB X no = false; rw [EB.out, hg]; rfl
    clear hg EV EB HG
    go_wp2_with fail
    go_ret2
    exact ⟨by rw [E1.out, E2.out]; rfl, HB2.out⟩
  have E1 : Hid (winV X no = (winL no X.wn).getD 0) := by show winV X no = _; rw [EV.out, hg]; rfl
  have E2 : Hid (winB X no = (winL no X.wn).isSome) := by show winB X no = _; rw [EB.out, hg]; rfl
  have H2 := hid (HG.out hg)
  clear hg EV EB HG
  have x4 := box_cell HK2.out 4
  have hz := hid (HZ.out w2 HB2.out)
  go_wp2_with fail
  go_loopw [14] (fun i wr => ∃ k : Nat, k ≤ X.wn.length ∧ i = .int .i64 k ∧ winL no (X.wn.drop k) = winL no X.wn ∧ wr = w2) (fun i _ => X.wn.length - (intOf i).toNat)
  case atStart => exact ⟨0, Nat.zero_le _, rfl, rfl, rfl⟩
  case round =>
    obtain ⟨k, hk, rfl, hv, hwr⟩ := hrel
    obtain rfl := hwr.symm
    have HV := hid hv
    clear hv x4
    by_cases hlt : k < X.wn.length
    · obtain ⟨b, off, eb, hb, hc⟩ := hz.out.n.cell (by omega)
      obtain ⟨q, cq, x0, hI⟩ := hc k hlt
      have ES := hid (winL_step no X.wn k hlt)
      have hm := H2.out k hlt
      rw [eb]
      clear hc eb
      generalize X.wn[k] = s at *
      obtain ⟨b2, off2, n0, n1, rfl, rfl, y0, y1⟩ := pair_at hI hm
      have x0' : w2.cell? ⟨b, off + k, none⟩ = some (.slice (some ⟨b2, off2, none⟩) 2 cq) := x0
      have EA : Hid (winL no (X.wn.drop k) = if n0 = no then some n1 else winL no (X.wn.drop (k + 1))) := ES.out
      clear hI hm x0 ES
      by_cases h0 : n0 = no
      · have d1 : (n0 == no) = true := beq_iff_eq.2 h0
        have d2 : decide (n0 = no) = true := decide_eq_true h0
        have HE : Hid (winL no X.wn = some n1) := by show winL no X.wn = _; rw [← HV.out, EA.out, if_pos h0]
        clear h0
        go_wp2_with fail
        go_ret2
        exact ⟨by rw [E1.out, E2.out, HE.out]; rfl, HB2.out⟩
      · have d1 : (n0 == no) = false := beq_eq_false_iff_ne.2 h0
        have d2 : decide (n0 = no) = false := decide_eq_false h0
        have HE : Hid (winL no (X.wn.drop (k + 1)) = winL no X.wn) := by show winL no (X.wn.drop (k + 1)) = _; rw [← HV.out, EA.out, if_neg h0]
        clear h0
        go_wp2_with fail
        go_roundw
        case rel => exact ⟨k + 1, by omega, by go_num, HE.out, by trivial⟩
        case measure => simp [intOf]; omega
    · obtain rfl : k = X.wn.length := by omega
      have HE : Hid (winL no X.wn = none) := by show winL no X.wn = none; rw [← HV.out, List.drop_length]; rfl
      go_wp2_with fail
      go_ret2
      exact ⟨by rw [E1.out, E2.out, HE.out]; rfl, HB2.out⟩
set_option maxHeartbeats 8000000 in
theorem iWinner_any (A : Af) (X : Fc) (no : Int) (w : World) (hf : FitF X) (h : FR w.heap.size A X w) :
    Calls Try.prog 31 #[.agg #[.slice A.j X.jd.length A.kj, .slice A.g X.gv.length A.kg, .slice A.p X.pl.length A.kp, .slice A.v X.vt.length A.kv, .slice A.n X.wn.length A.kn, .slice A.l X.ln.length A.kl, .int .i64 X.sn, .slice A.s X.st.length A.ks], .int .i64 no] w fun e w' => e = .returned (.tuple #[.int .i64 (winV X no), .bool (winB X no)]) ∧ Below w.heap.size w w' := by
  have HB := hid (boxB w (.cells #[.slice A.j X.jd.length A.kj, .slice A.g X.gv.length A.kg, .slice A.p X.pl.length A.kp, .slice A.v X.vt.length A.kv, .slice A.n X.wn.length A.kn, .slice A.l X.ln.length A.kl, .int .i64 X.sn, .slice A.s X.st.length A.ks] 26))
  have HK := hid (heap_last w (.cells #[.slice A.j X.jd.length A.kj, .slice A.g X.gv.length A.kg, .slice A.p X.pl.length A.kp, .slice A.v X.vt.length A.kv, .slice A.n X.wn.length A.kn, .slice A.l X.ln.length A.kl, .int .i64 X.sn, .slice A.s X.st.length A.ks] 26))
  have HZ : Hid (∀ v, Below w.heap.size w v → FR v.heap.size A X v) := fun v g => h.up g g.size
  have HF := hid hf
  have n1 := hf.n.1
  have EV : Hid (winV X no = if goodF X then (winL no X.wn).getD 0 else 0) := rfl
  have EB : Hid (winB X no = (goodF X && (winL no X.wn).isSome)) := rfl
  clear h hf
  go_enter Try.func31, Try.ntmps31
  go_upto_region 1 with fail
  generalize w.alloc (.cells #[.slice A.j X.jd.length A.kj, .slice A.g X.gv.length A.kg, .slice A.p X.pl.length A.kp, .slice A.v X.vt.length A.kv, .slice A.n X.wn.length A.kn, .slice A.l X.ln.length A.kl, .int .i64 X.sn, .slice A.s X.st.length A.ks] 26) = W at *
  have HC := hid (igoodF_any A X W HF.out (HZ.out W HB.out))
  have HG : Hid (goodF X = true → ∀ k (h : k < X.wn.length), X.wn[k].length = 2) := fun h => prOk_two (goodF_gf h).wn
  have x0 : W.cell? ⟨w.heap.size, 0, none⟩ = some (.slice A.j X.jd.length A.kj) := box_cell HK.out 0
  have x1 : W.cell? ⟨w.heap.size, 1, none⟩ = some (.slice A.g X.gv.length A.kg) := box_cell HK.out 1
  have x2 : W.cell? ⟨w.heap.size, 2, none⟩ = some (.slice A.p X.pl.length A.kp) := box_cell HK.out 2
  have x3 : W.cell? ⟨w.heap.size, 3, none⟩ = some (.slice A.v X.vt.length A.kv) := box_cell HK.out 3
  have x4 : W.cell? ⟨w.heap.size, 4, none⟩ = some (.slice A.n X.wn.length A.kn) := box_cell HK.out 4
  have x5 : W.cell? ⟨w.heap.size, 5, none⟩ = some (.slice A.l X.ln.length A.kl) := box_cell HK.out 5
  have x6 : W.cell? ⟨w.heap.size, 6, none⟩ = some (.int .i64 X.sn) := box_cell HK.out 6
  have x7 : W.cell? ⟨w.heap.size, 7, none⟩ = some (.slice A.s X.st.length A.ks) := box_cell HK.out 7
  go_wp2_with fail
  refine HC.out.mono ?_
  rintro e w2 ⟨rfl, b2⟩
  have HB2 := hid (HB.out.trans (b2.mono HB.out.size))
  have HK2 := hid ((b2.block _ (kbox HK.out)).trans HK.out)
  clear b2 HC x0 x1 x2 x3 x4 x5 x6 x7
  cases hg : goodF X
  · have E1 : Hid (winV X no = 0) := by show winV X no = 0; rw [EV.out, hg]; rfl
    have E2 : Hid (winB X no = false) := by show winB X no = false; rw [EB.out, hg]; rfl
    clear hg EV EB HG
    go_wp2_with fail
    go_ret2
    exact ⟨by rw [E1.out, E2.out]; rfl, HB2.out⟩
  have E1 : Hid (winV X no = (winL no X.wn).getD 0) := by show winV X no = _; rw [EV.out, hg]; rfl
  have E2 : Hid (winB X no = (winL no X.wn).isSome) := by show winB X no = _; rw [EB.out, hg]; rfl
  have H2 := hid (HG.out hg)
  clear hg EV EB HG
  have x4 := box_cell HK2.out 4
  have hz := hid (HZ.out w2 HB2.out)
  go_wp2_with fail
  go_loopw [14] (fun i wr => ∃ k : Nat, k ≤ X.wn.length ∧ i = .int .i64 k ∧ winL no (X.wn.drop k) = winL no X.wn ∧ wr = w2) (fun i _ => X.wn.length - (intOf i).toNat)
  case atStart => exact ⟨0, Nat.zero_le _, rfl, rfl, rfl⟩
  case round =>
    obtain ⟨k, hk, rfl, hv, hwr⟩ := hrel
    obtain rfl := hwr.symm
    have HV := hid hv
    clear hv x4
    by_cases hlt : k < X.wn.length
    · obtain ⟨b, off, eb, hb, hc⟩ := hz.out.n.cell (by omega)
      obtain ⟨q, cq, x0, hI⟩ := hc k hlt
      have ES := hid (winL_step no X.wn k hlt)
      have hm := H2.out k hlt
      rw [eb]
      clear hc eb
      generalize X.wn[k] = s at *
      obtain ⟨b2, off2, n0, n1, rfl, rfl, y0, y1⟩ := pair_at hI hm
      have x0' : w2.cell? ⟨b, off + k, none⟩ = some (.slice (some ⟨b2, off2, none⟩) 2 cq) := x0
      have EA : Hid (winL no (X.wn.drop k) = if n0 = no then some n1 else winL no (X.wn.drop (k + 1))) := ES.out
      clear hI hm x0 ES
      by_cases h0 : n0 = no
      · have d1 : (n0 == no) = true := beq_iff_eq.2 h0
        have d2 : decide (n0 = no) = true := decide_eq_true h0
        have HE : Hid (winL no X.wn = some n1) := by show winL no X.wn = _; rw [← HV.out, EA.out, if_pos h0]
        clear h0
        go_wp2_with fail
        go_ret2
        exact ⟨by rw [E1.out, E2.out, HE.out]; rfl, HB2.out⟩
      · have d1 : (n0 == no) = false := beq_eq_false_iff_ne.2 h0
        have d2 : decide (n0 = no) = false := decide_eq_false h0
        have HE : Hid (winL no (X.wn.drop (k + 1)) = winL no X.wn) := by show winL no (X.wn.drop (k + 1)) = _; rw [← HV.out, EA.out, if_neg h0]
        clear h0
        go_wp2_with fail
        go_roundw
        case rel => exact ⟨k + 1, by omega, by go_num, HE.out, by trivial⟩
        case measure => simp [intOf]; omega
    · obtain rfl : k = X.wn.length := by omega
      have HE : Hid (winL no X.wn = none) := by show winL no X.wn = none; rw [← HV.out, List.drop_length]; rfl
      go_wp2_with fail
      go_ret2
      exact ⟨by rw [E1.out, E2.out, HE.out]; rfl, HB2.out⟩
/-- whether a place may store, of a good fence -/
def mayN (X : Fc) (p : Int) : Bool := decide (X.sn ≤ X.pl.getD p.toNat 0) && hasL (X.pl.getD p.toNat 0) p X.wn
def mayOk (X : Fc) (p : Int) : Bool := goodF X && plB p
def mayV (X : Fc) (p : Int) : Bool := mayOk X p && mayN X p
set_option maxHeartbeats 8000000 in
theorem l13May_any (A : Af) (X : Fc) (p : Int) (w : World) (hf : FitF X) (hg : goodF X = true) (hp : plB p = true) (h : FR w.heap.size A X w) :
    Calls Try.prog 66 #[.agg #[.slice A.j X.jd.length A.kj, .slice A.g X.gv.length A.kg, .slice A.p X.pl.length A.kp, .slice A.v X.vt.length A.kv, .slice A.n X.wn.length A.kn, .slice A.l X.ln.length A.kl, .int .i64 X.sn, .slice A.s X.st.length A.ks], .int .i64 p] w fun e w' => e = .returned (.bool (mayN X p)) ∧ Below w.heap.size w w' := by
  obtain ⟨k, rfl, hk⟩ : ∃ k : Nat, p = (k : Int) ∧ k < 2 := ⟨p.toNat, by have := inB_at hp; omega, by have := inB_at hp; omega⟩
  have G := goodF_gf hg
  have h2 := prOk_two G.wn
  have hpl : X.pl.length = 2 := G.p2
  have HB := hid (boxB w (.cells #[.slice A.j X.jd.length A.kj, .slice A.g X.gv.length A.kg, .slice A.p X.pl.length A.kp, .slice A.v X.vt.length A.kv, .slice A.n X.wn.length A.kn, .slice A.l X.ln.length A.kl, .int .i64 X.sn, .slice A.s X.st.length A.ks] 26))
  have HK := hid (heap_last w (.cells #[.slice A.j X.jd.length A.kj, .slice A.g X.gv.length A.kg, .slice A.p X.pl.length A.kp, .slice A.v X.vt.length A.kv, .slice A.n X.wn.length A.kn, .slice A.l X.ln.length A.kl, .int .i64 X.sn, .slice A.s X.st.length A.ks] 26))
  have HZ : Hid (∀ v, Below w.heap.size w v → FR v.heap.size A X v) := fun v g => h.up g g.size
  have EN : Hid (mayN X (k : Int) = (decide (X.sn ≤ X.pl.getD k 0) && hasL (X.pl.getD k 0) k X.wn)) := rfl
  have n1 := hf.n.1
  obtain ⟨bp, op, ep, hbp, hcp⟩ := h.p.cell (by omega)
  have hq := hcp k (by omega)
  have HQ : Hid (∀ v, Below w.heap.size w v → v.cell? ⟨bp, op + k, none⟩ = some (.int .i64 (X.pl.getD k 0))) := fun v g => by rw [getD_in _ _ _ (by omega)]; exact (g.cell (p := ⟨bp, op + k, none⟩) hbp).trans hq
  have HH : Hid (∀ v, Below w.heap.size w v → Calls Try.prog 85 #[.slice A.n X.wn.length A.kn, .int .i64 (X.pl.getD k 0), .int .i64 (k : Int)] v fun e w' => e = .returned (.bool (hasL (X.pl.getD k 0) k X.wn)) ∧ w' = v) := fun v g => l13Has_any A.n A.kn X.wn (X.pl.getD k 0) k v n1 h2 (HZ.out v g).n
  have HW : Hid (∀ n v, Below w.heap.size w v → Below w.heap.size w (v.drewN n)) := fun n v g => g.trans ((belowN v n).mono g.size)
  rw [ep, hpl]
  clear h hf hg hp G h2 hcp hq
  go_enter Try.func66, Try.ntmps66
  go_upto_region 1 with fail
  have HK' : Hid ((w.alloc (.cells #[.slice A.j X.jd.length A.kj, .slice A.g X.gv.length A.kg, .slice (some ⟨bp, op, none⟩) 2 A.kp, .slice A.v X.vt.length A.kv, .slice A.n X.wn.length A.kn, .slice A.l X.ln.length A.kl, .int .i64 X.sn, .slice A.s X.st.length A.ks] 26)).heap[w.heap.size]? = some (.cells #[.slice A.j X.jd.length A.kj, .slice A.g X.gv.length A.kg, .slice (some ⟨bp, op, none⟩) 2 A.kp, .slice A.v X.vt.length A.kv, .slice A.n X.wn.length A.kn, .slice A.l X.ln.length A.kl, .int .i64 X.sn, .slice A.s X.st.length A.ks] 26)) := heap_last _ _
  have HB' := hid (boxB w (.cells #[.slice A.j X.jd.length A.kj, .slice A.g X.gv.length A.kg, .slice (some ⟨bp, op, none⟩) 2 A.kp, .slice A.v X.vt.length A.kv, .slice A.n X.wn.length A.kn, .slice A.l X.ln.length A.kl, .int .i64 X.sn, .slice A.s X.st.length A.ks] 26))
  generalize w.alloc (.cells #[.slice A.j X.jd.length A.kj, .slice A.g X.gv.length A.kg, .slice (some ⟨bp, op, none⟩) 2 A.kp, .slice A.v X.vt.length A.kv, .slice A.n X.wn.length A.kn, .slice A.l X.ln.length A.kl, .int .i64 X.sn, .slice A.s X.st.length A.ks] 26) = W at *
  clear HB HK ep hpl
  have x2 := box_cell HK'.out 2
  have x4 := box_cell HK'.out 4
  have x6 := box_cell HK'.out 6
  have y0 := HQ.out W HB'.out
  have HC : Hid (∀ n, Calls Try.prog 85 #[.slice A.n X.wn.length A.kn, .int .i64 (X.pl.getD k 0), .int .i64 (k : Int)] (W.drewN n) fun e w' => e = .returned (.bool (hasL (X.pl.getD k 0) k X.wn)) ∧ w' = W.drewN n) := fun n => HH.out _ (HW.out n W HB'.out)
  generalize X.pl.getD k 0 = nn at *
  generalize hasL nn (k : Int) X.wn = hh at *
  clear HQ HH
  cases hh
  · go_quiet ((go_at_call 85; exact Calls.quiet_of_same (HC.out _)))
    go_wp2_with fail
    go_ret
    exact ⟨by rw [EN.out]; simp, HB'.out.trans ((belowN _ _).mono HB'.out.size)⟩
  by_cases hs : X.sn ≤ nn
  · have d1 : decide (X.sn ≤ nn) = true := decide_eq_true hs
    clear hs
    go_quiet ((go_at_call 85; exact Calls.quiet_of_same (HC.out _)))
    go_wp2_with fail
    go_ret
    exact ⟨by rw [EN.out, d1]; rfl, HB'.out.trans ((belowN _ _).mono HB'.out.size)⟩
  · have d1 : decide (X.sn ≤ nn) = false := decide_eq_false hs
    clear hs
    go_quiet ((go_at_call 85; exact Calls.quiet_of_same (HC.out _)))
    go_wp2_with fail
    go_ret
    exact ⟨by rw [EN.out, d1]; rfl, HB'.out.trans ((belowN _ _).mono HB'.out.size)⟩
set_option maxHeartbeats 8000000 in
theorem sMay_any (A : Af) (X : Fc) (p : Int) (w : World) (hf : FitF X) (h : FR w.heap.size A X w) :
    Calls Try.prog 32 #[.agg #[.slice A.j X.jd.length A.kj, .slice A.g X.gv.length A.kg, .slice A.p X.pl.length A.kp, .slice A.v X.vt.length A.kv, .slice A.n X.wn.length A.kn, .slice A.l X.ln.length A.kl, .int .i64 X.sn, .slice A.s X.st.length A.ks], .int .i64 p] w fun e w' => e = .returned (.tuple #[.bool (mayV X p), .bool (mayOk X p)]) ∧ Below w.heap.size w w' := by
  have HB := hid (boxB w (.cells #[.slice A.j X.jd.length A.kj, .slice A.g X.gv.length A.kg, .slice A.p X.pl.length A.kp, .slice A.v X.vt.length A.kv, .slice A.n X.wn.length A.kn, .slice A.l X.ln.length A.kl, .int .i64 X.sn, .slice A.s X.st.length A.ks] 26))
  have HK := hid (heap_last w (.cells #[.slice A.j X.jd.length A.kj, .slice A.g X.gv.length A.kg, .slice A.p X.pl.length A.kp, .slice A.v X.vt.length A.kv, .slice A.n X.wn.length A.kn, .slice A.l X.ln.length A.kl, .int .i64 X.sn, .slice A.s X.st.length A.ks] 26))
  have HZ : Hid (∀ v, Below w.heap.size w v → FR v.heap.size A X v) := fun v g => h.up g g.size
  have HF := hid hf
  have EO : Hid (mayOk X p = (goodF X && plB p)) := rfl
  have EV : Hid (mayV X p = (mayOk X p && mayN X p)) := rfl
  clear h hf
  go_enter Try.func32, Try.ntmps32
  go_upto_region 1 with fail
  generalize w.alloc (.cells #[.slice A.j X.jd.length A.kj, .slice A.g X.gv.length A.kg, .slice A.p X.pl.length A.kp, .slice A.v X.vt.length A.kv, .slice A.n X.wn.length A.kn, .slice A.l X.ln.length A.kl, .int .i64 X.sn, .slice A.s X.st.length A.ks] 26) = W at *
  have HC := hid (sgoodF_any A X W HF.out (HZ.out W HB.out))
  have x0 : W.cell? ⟨w.heap.size, 0, none⟩ = some (.slice A.j X.jd.length A.kj) := box_cell HK.out 0
  have x1 : W.cell? ⟨w.heap.size, 1, none⟩ = some (.slice A.g X.gv.length A.kg) := box_cell HK.out 1
  have x2 : W.cell? ⟨w.heap.size, 2, none⟩ = some (.slice A.p X.pl.length A.kp) := box_cell HK.out 2
  have x3 : W.cell? ⟨w.heap.size, 3, none⟩ = some (.slice A.v X.vt.length A.kv) := box_cell HK.out 3
  have x4 : W.cell? ⟨w.heap.size, 4, none⟩ = some (.slice A.n X.wn.length A.kn) := box_cell HK.out 4
  have x5 : W.cell? ⟨w.heap.size, 5, none⟩ = some (.slice A.l X.ln.length A.kl) := box_cell HK.out 5
  have x6 : W.cell? ⟨w.heap.size, 6, none⟩ = some (.int .i64 X.sn) := box_cell HK.out 6
  have x7 : W.cell? ⟨w.heap.size, 7, none⟩ = some (.slice A.s X.st.length A.ks) := box_cell HK.out 7
  go_wp2_with fail
  refine HC.out.mono ?_
  rintro e w2 ⟨rfl, b2⟩
  have HB2 := hid (HB.out.trans (b2.mono HB.out.size))
  have HK2 := hid ((b2.block _ (kbox HK.out)).trans HK.out)
  clear b2 HC HB HK x0 x1 x2 x3 x4 x5 x6 x7
  cases hg : goodF X
  · have E1 : Hid (mayOk X p = false) := by show mayOk X p = false; rw [EO.out, hg]; rfl
    have E2 : Hid (mayV X p = false) := by show mayV X p = false; rw [EV.out, E1.out]; rfl
    clear hg EV EO
    go_wp2_with fail
    go_ret2
    exact ⟨by rw [E1.out, E2.out]; rfl, HB2.out⟩
  have HP : Hid (Calls Try.prog 34 #[.int .i64 p, .int .i64 0, .int .i64 1] w2 fun e w' => e = .returned (.bool (plB p)) ∧ w' = w2) := (l1In_b p 0 1 w2)
  cases hp : plB p
  · have E1 : Hid (mayOk X p = false) := by show mayOk X p = false; rw [EO.out, hp]; simp
    have E2 : Hid (mayV X p = false) := by show mayV X p = false; rw [EV.out, E1.out]; rfl
    rw [hp] at HP
    clear hg hp EV EO
    go_wp2_with fail
    refine HP.out.mono ?_
    rintro e w3 ⟨rfl, hw3⟩
    rw [hw3]
    clear hw3
    go_wp2_with fail
    go_ret2
    exact ⟨by rw [E1.out, E2.out]; rfl, HB2.out⟩
  have E1 : Hid (mayOk X p = true) := by show mayOk X p = true; rw [EO.out, hg, hp]; rfl
  have E2 : Hid (mayV X p = mayN X p) := by show mayV X p = _; rw [EV.out, E1.out]; rfl
  rw [hp] at HP
  have HG := hid hg
  have HPL := hid hp
  clear hg hp EV EO
  have x0 : w2.cell? ⟨w.heap.size, 0, none⟩ = some (.slice A.j X.jd.length A.kj) := box_cell HK2.out 0
  have x1 : w2.cell? ⟨w.heap.size, 1, none⟩ = some (.slice A.g X.gv.length A.kg) := box_cell HK2.out 1
  have x2 : w2.cell? ⟨w.heap.size, 2, none⟩ = some (.slice A.p X.pl.length A.kp) := box_cell HK2.out 2
  have x3 : w2.cell? ⟨w.heap.size, 3, none⟩ = some (.slice A.v X.vt.length A.kv) := box_cell HK2.out 3
  have x4 : w2.cell? ⟨w.heap.size, 4, none⟩ = some (.slice A.n X.wn.length A.kn) := box_cell HK2.out 4
  have x5 : w2.cell? ⟨w.heap.size, 5, none⟩ = some (.slice A.l X.ln.length A.kl) := box_cell HK2.out 5
  have x6 : w2.cell? ⟨w.heap.size, 6, none⟩ = some (.int .i64 X.sn) := box_cell HK2.out 6
  have x7 : w2.cell? ⟨w.heap.size, 7, none⟩ = some (.slice A.s X.st.length A.ks) := box_cell HK2.out 7
  have HM := hid (l13May_any A X p w2 HF.out HG.out HPL.out (HZ.out w2 HB2.out))
  generalize mayN X p = m at *
  go_wp2_with fail
  refine HP.out.mono ?_
  rintro e w3 ⟨rfl, hw3⟩
  rw [hw3]
  clear hw3
  go_wp2_with fail
  refine HM.out.mono ?_
  rintro e w3 ⟨rfl, b3⟩
  have HB3 := hid (HB2.out.trans (b3.mono HB2.out.size))
  clear b3 HM
  go_wp2_with fail
  go_ret2
  exact ⟨by rw [E1.out, E2.out]; rfl, HB3.out⟩
set_option maxHeartbeats 8000000 in
theorem iMay_any (A : Af) (X : Fc) (p : Int) (w : World) (hf : FitF X) (h : FR w.heap.size A X w) :
    Calls Try.prog 33 #[.agg #[.slice A.j X.jd.length A.kj, .slice A.g X.gv.length A.kg, .slice A.p X.pl.length A.kp, .slice A.v X.vt.length A.kv, .slice A.n X.wn.length A.kn, .slice A.l X.ln.length A.kl, .int .i64 X.sn, .slice A.s X.st.length A.ks], .int .i64 p] w fun e w' => e = .returned (.tuple #[.bool (mayV X p), .bool (mayOk X p)]) ∧ Below w.heap.size w w' := by
  have HB := hid (boxB w (.cells #[.slice A.j X.jd.length A.kj, .slice A.g X.gv.length A.kg, .slice A.p X.pl.length A.kp, .slice A.v X.vt.length A.kv, .slice A.n X.wn.length A.kn, .slice A.l X.ln.length A.kl, .int .i64 X.sn, .slice A.s X.st.length A.ks] 26))
  have HK := hid (heap_last w (.cells #[.slice A.j X.jd.length A.kj, .slice A.g X.gv.length A.kg, .slice A.p X.pl.length A.kp, .slice A.v X.vt.length A.kv, .slice A.n X.wn.length A.kn, .slice A.l X.ln.length A.kl, .int .i64 X.sn, .slice A.s X.st.length A.ks] 26))
  have HZ : Hid (∀ v, Below w.heap.size w v → FR v.heap.size A X v) := fun v g => h.up g g.size
  have HF := hid hf
  have EO : Hid (mayOk X p = (goodF X && plB p)) := rfl
  have EV : Hid (mayV X p = (mayOk X p && mayN X p)) := rfl
  clear h hf
  go_enter Try.func33, Try.ntmps33
  go_upto_region 1 with fail
  generalize w.alloc (.cells #[.slice A.j X.jd.length A.kj, .slice A.g X.gv.length A.kg, .slice A.p X.pl.length A.kp, .slice A.v X.vt.length A.kv, .slice A.n X.wn.length A.kn, .slice A.l X.ln.length A.kl, .int .i64 X.sn, .slice A.s X.st.length A.ks] 26) = W at *
  have HC := hid (igoodF_any A X W HF.out (HZ.out W HB.out))
  have x0 : W.cell? ⟨w.heap.size, 0, none⟩ = some (.slice A.j X.jd.length A.kj) := box_cell HK.out 0
  have x1 : W.cell? ⟨w.heap.size, 1, none⟩ = some (.slice A.g X.gv.length A.kg) := box_cell HK.out 1
  have x2 : W.cell? ⟨w.heap.size, 2, none⟩ = some (.slice A.p X.pl.length A.kp) := box_cell HK.out 2
  have x3 : W.cell? ⟨w.heap.size, 3, none⟩ = some (.slice A.v X.vt.length A.kv) := box_cell HK.out 3
  have x4 : W.cell? ⟨w.heap.size, 4, none⟩ = some (.slice A.n X.wn.length A.kn) := box_cell HK.out 4
  have x5 : W.cell? ⟨w.heap.size, 5, none⟩ = some (.slice A.l X.ln.length A.kl) := box_cell HK.out 5
  have x6 : W.cell? ⟨w.heap.size, 6, none⟩ = some (.int .i64 X.sn) := box_cell HK.out 6
  have x7 : W.cell? ⟨w.heap.size, 7, none⟩ = some (.slice A.s X.st.length A.ks) := box_cell HK.out 7
  go_wp2_with fail
  refine HC.out.mono ?_
  rintro e w2 ⟨rfl, b2⟩
  have HB2 := hid (HB.out.trans (b2.mono HB.out.size))
  have HK2 := hid ((b2.block _ (kbox HK.out)).trans HK.out)
  clear b2 HC HB HK x0 x1 x2 x3 x4 x5 x6 x7
  cases hg : goodF X
  · have E1 : Hid (mayOk X p = false) := by show mayOk X p = false; rw [EO.out, hg]; rfl
    have E2 : Hid (mayV X p = false) := by show mayV X p = false; rw [EV.out, E1.out]; rfl
    clear hg EV EO
    go_wp2_with fail
    go_ret2
    exact ⟨by rw [E1.out, E2.out]; rfl, HB2.out⟩
  have HP : Hid (Calls Try.prog 67 #[.int .i64 p] w2 fun e w' => e = .returned (.bool (plB p)) ∧ w' = w2) := (isPlace_any p w2)
  cases hp : plB p
  · have E1 : Hid (mayOk X p = false) := by show mayOk X p = false; rw [EO.out, hp]; simp
    have E2 : Hid (mayV X p = false) := by show mayV X p = false; rw [EV.out, E1.out]; rfl
    rw [hp] at HP
    clear hg hp EV EO
    go_wp2_with fail
    refine HP.out.mono ?_
    rintro e w3 ⟨rfl, hw3⟩
    rw [hw3]
    clear hw3
    go_wp2_with fail
    go_ret2
    exact ⟨by rw [E1.out, E2.out]; rfl, HB2.out⟩
  have E1 : Hid (mayOk X p = true) := by show mayOk X p = true; rw [EO.out, hg, hp]; rfl
  have E2 : Hid (mayV X p = mayN X p) := by show mayV X p = _; rw [EV.out, E1.out]; rfl
  rw [hp] at HP
  have HG := hid hg
  have HPL := hid hp
  clear hg hp EV EO
  obtain ⟨k, rfl, hk⟩ : ∃ k : Nat, p = (k : Int) ∧ k < 2 := ⟨p.toNat, by have := inB_at HPL.out; omega, by have := inB_at HPL.out; omega⟩
  have EN : Hid (mayN X (k : Int) = (decide (X.sn ≤ X.pl.getD k 0) && hasL (X.pl.getD k 0) k X.wn)) := rfl
  have hz := HZ.out w2 HB2.out
  have G := goodF_gf HG.out
  have hpl : X.pl.length = 2 := G.p2
  obtain ⟨bp, op, ep, hbp, hcp⟩ := hz.p.cell (by omega)
  have y0 : w2.cell? ⟨bp, op + k, none⟩ = some (.int .i64 (X.pl.getD k 0)) := by rw [getD_in _ _ _ (by omega)]; exact hcp k (by omega)
  have HH := hid (hasPair_any A.n A.kn X.wn (X.pl.getD k 0) k w2 HF.out.n.1 (prOk_two G.wn) hz.n)
  have x2 : w2.cell? ⟨w.heap.size, 2, none⟩ = some (.slice A.p X.pl.length A.kp) := box_cell HK2.out 2
  have x4 : w2.cell? ⟨w.heap.size, 4, none⟩ = some (.slice A.n X.wn.length A.kn) := box_cell HK2.out 4
  have x6 : w2.cell? ⟨w.heap.size, 6, none⟩ = some (.int .i64 X.sn) := box_cell HK2.out 6
  rw [ep, hpl] at x2
  clear hz G hcp ep hpl
  generalize X.pl.getD k 0 = nn at *
  generalize hasL nn (k : Int) X.wn = hh at *
  by_cases hs : X.sn ≤ nn
  · have d1 : decide (X.sn ≤ nn) = true := decide_eq_true hs
    clear hs
    go_wp2_with fail
    refine HP.out.mono ?_
    rintro e w3 ⟨rfl, hw3⟩
    rw [hw3]
    clear hw3
    go_wp2_with fail
    refine HH.out.mono ?_
    rintro e w3 ⟨rfl, hw3⟩
    rw [hw3]
    clear hw3
    go_wp2_with fail
    go_ret2
    exact ⟨by rw [E1.out, E2.out, EN.out, d1]; cases hh <;> rfl, HB2.out⟩
  · have d1 : decide (X.sn ≤ nn) = false := decide_eq_false hs
    clear hs
    go_wp2_with fail
    refine HP.out.mono ?_
    rintro e w3 ⟨rfl, hw3⟩
    rw [hw3]
    clear hw3
    go_wp2_with fail
    go_ret2
    exact ⟨by rw [E1.out, E2.out, EN.out, d1]; rfl, HB2.out⟩
end Go.Proofs.Ytikmkkklgdkpaaa
