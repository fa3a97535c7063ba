/- The program's GoodFence, the model's papers. -/
import Derived.Test.YtikmkkklgdkpaaaFcG
namespace Go.Proofs.Ytikmkkklgdkpaaa
set_option maxRecDepth 100000
open Go Go.ChangeShapes Go.WideShapes Go.ChangeAt Go.RowKit
set_option maxHeartbeats 8000000 in
theorem igoodF_any (A : Af) (X : Fc) (w : World) (hf : FitF X) (h : FR w.heap.size A X w) :
    Calls Try.prog 17 #[.agg #[.slice A.j X.jd.length A.kj, .slice A.g X.gv.length A.kg, .slice A.p X.pl.length A.kp, .slice A.v X.vt.length A.kv, .slice A.n X.wn.length A.kn, .slice A.l X.ln.length A.kl, .int .i64 X.sn, .slice A.s X.st.length A.ks]] w fun e w' => e = .returned (.bool (goodF X)) ∧ Below w.heap.size w w' := by
  have HB := hid (boxB w (.cells #[.slice A.j X.jd.length A.kj, .slice A.g X.gv.length A.kg, .slice A.p X.pl.length A.kp, .slice A.v X.vt.length A.kv, .slice A.n X.wn.length A.kn, .slice A.l X.ln.length A.kl, .int .i64 X.sn, .slice A.s X.st.length A.ks] 26))
  have HK := hid (heap_last w (.cells #[.slice A.j X.jd.length A.kj, .slice A.g X.gv.length A.kg, .slice A.p X.pl.length A.kp, .slice A.v X.vt.length A.kv, .slice A.n X.wn.length A.kn, .slice A.l X.ln.length A.kl, .int .i64 X.sn, .slice A.s X.st.length A.ks] 26))
  have HZ : Hid (∀ v, Below w.heap.size w v → FR v.heap.size A X v) := fun v g => h.up g g.size
  have HF := hid hf
  have EG : Hid (goodF X = (jdOk X.jd X.gv && (plaOk X.pl X.vt X.jd.length && (lnOk X.ln X.jd.length && (prOk X.wn && (prOk X.st && noOr X.sn)))))) := rfl
  have n0 := hf.j
  clear h hf
  go_enter Try.func17, Try.ntmps17
  go_upto_region 1 with fail
  generalize w.alloc (.cells #[.slice A.j X.jd.length A.kj, .slice A.g X.gv.length A.kg, .slice A.p X.pl.length A.kp, .slice A.v X.vt.length A.kv, .slice A.n X.wn.length A.kn, .slice A.l X.ln.length A.kl, .int .i64 X.sn, .slice A.s X.st.length A.ks] 26) = W at *
  have x0 : W.cell? ⟨w.heap.size, 0, none⟩ = some (.slice A.j X.jd.length A.kj) := box_cell HK.out 0
  have x1 : W.cell? ⟨w.heap.size, 1, none⟩ = some (.slice A.g X.gv.length A.kg) := box_cell HK.out 1
  have x2 : W.cell? ⟨w.heap.size, 2, none⟩ = some (.slice A.p X.pl.length A.kp) := box_cell HK.out 2
  have x3 : W.cell? ⟨w.heap.size, 3, none⟩ = some (.slice A.v X.vt.length A.kv) := box_cell HK.out 3
  have x4 : W.cell? ⟨w.heap.size, 4, none⟩ = some (.slice A.n X.wn.length A.kn) := box_cell HK.out 4
  have x5 : W.cell? ⟨w.heap.size, 5, none⟩ = some (.slice A.l X.ln.length A.kl) := box_cell HK.out 5
  have x6 : W.cell? ⟨w.heap.size, 6, none⟩ = some (.int .i64 X.sn) := box_cell HK.out 6
  have x7 : W.cell? ⟨w.heap.size, 7, none⟩ = some (.slice A.s X.st.length A.ks) := box_cell HK.out 7
  have HC1 := hid (goodJudges_any A.j A.g A.kj A.kg X.jd X.gv W HF.out.j HF.out.g (HZ.out W HB.out).j (HZ.out W HB.out).g)
  have HC2 := hid (goodPlaces_any A.p A.v A.kp A.kv X.pl X.vt X.jd.length W HF.out.p HF.out.v (HZ.out W HB.out).p (HZ.out W HB.out).v)
  have HC3 := hid (goodPapers_any A.l A.kl X.ln X.jd.length W HF.out.l (HZ.out W HB.out).l)
  generalize jdOk X.jd X.gv = c1 at *
  generalize plaOk X.pl X.vt X.jd.length = c2 at *
  generalize lnOk X.ln X.jd.length = c3 at *
  go_wp2_with fail
  refine HC1.out.mono ?_
  rintro e w2 ⟨rfl, hw2⟩
  rw [hw2]
  clear hw2 HC1
  cases c1
  · go_wp2_with fail
    go_ret
    exact ⟨by rw [EG.out]; rfl, HB.out⟩
  go_wp2_with fail
  refine HC2.out.mono ?_
  rintro e w2 ⟨rfl, hw2⟩
  rw [hw2]
  clear hw2 HC2
  cases c2
  · go_wp2_with fail
    go_ret
    exact ⟨by rw [EG.out]; rfl, HB.out⟩
  go_wp2_with fail
  refine HC3.out.mono ?_
  rintro e w3 ⟨rfl, b3⟩
  have HB3 := hid (HB.out.trans (b3.mono HB.out.size))
  have HK3 := hid ((b3.block _ (kbox HK.out)).trans HK.out)
  clear b3 HC3 x0 x1 x2 x3 x4 x5 x6 x7
  cases c3
  · go_wp2_with fail
    go_ret
    exact ⟨by rw [EG.out]; rfl, HB3.out⟩
  have HC4 := hid (goodPairs_any A.n A.kn X.wn w3 HF.out.n (HZ.out w3 HB3.out).n)
  have HC5 := hid (goodPairs_any A.s A.ks X.st w3 HF.out.s (HZ.out w3 HB3.out).s)
  have HC6 := hid (isNoOr_any X.sn w3)
  have x4 : w3.cell? ⟨w.heap.size, 4, none⟩ = some (.slice A.n X.wn.length A.kn) := box_cell HK3.out 4
  have x6 : w3.cell? ⟨w.heap.size, 6, none⟩ = some (.int .i64 X.sn) := box_cell HK3.out 6
  have x7 : w3.cell? ⟨w.heap.size, 7, none⟩ = some (.slice A.s X.st.length A.ks) := box_cell HK3.out 7
  generalize prOk X.wn = c4 at *
  generalize prOk X.st = c5 at *
  generalize noOr X.sn = c6 at *
  go_wp2_with fail
  refine HC4.out.mono ?_
  rintro e w2 ⟨rfl, hw2⟩
  rw [hw2]
  clear hw2 HC4
  cases c4
  · go_wp2_with fail
    go_ret
    exact ⟨by rw [EG.out]; rfl, HB3.out⟩
  go_wp2_with fail
  refine HC5.out.mono ?_
  rintro e w2 ⟨rfl, hw2⟩
  rw [hw2]
  clear hw2 HC5
  cases c5
  · go_wp2_with fail
    go_ret
    exact ⟨by rw [EG.out]; rfl, HB3.out⟩
  go_wp2_with fail
  refine HC6.out.mono ?_
  rintro e w2 ⟨rfl, hw2⟩
  rw [hw2]
  clear hw2 HC6
  go_wp2_with fail
  go_ret
  exact ⟨by rw [EG.out]; cases c6 <;> rfl, HB3.out⟩
theorem ppB_no {m : Int} {p : Pp} (h : noB p.no = false) : ppB m p = false := by unfold ppB; rw [h]; simp
set_option maxHeartbeats 4000000 in
theorem l13Paper_1 (A : Af) (X : Fc) (fr tt no : Int) (w : World) (hn : X.jd.length ≤ 1048576) :
    Calls Try.prog 51 #[.agg #[.slice A.j X.jd.length A.kj, .slice A.g X.gv.length A.kg, .slice A.p X.pl.length A.kp, .slice A.v X.vt.length A.kv, .slice A.n X.wn.length A.kn, .slice A.l X.ln.length A.kl, .int .i64 X.sn, .slice A.s X.st.length A.ks], .agg #[.int .i64 1, .int .i64 fr, .int .i64 tt, .int .i64 no]] w fun e w' => e = .returned (.bool (ppB X.jd.length ⟨1, fr, tt, no⟩)) ∧ Below w.heap.size w w' := by
  have HB : Hid (Below w.heap.size w ((w.alloc (.cells #[.slice A.j X.jd.length A.kj, .slice A.g X.gv.length A.kg, .slice A.p X.pl.length A.kp, .slice A.v X.vt.length A.kv, .slice A.n X.wn.length A.kn, .slice A.l X.ln.length A.kl, .int .i64 X.sn, .slice A.s X.st.length A.ks] 26)).alloc (.cells #[.int .i64 1, .int .i64 fr, .int .i64 tt, .int .i64 no] 74))) := ((Below.refl _ _).alloc (Nat.le_refl _) _).alloc (by simp) _
  have hx : ((w.alloc (.cells #[.slice A.j X.jd.length A.kj, .slice A.g X.gv.length A.kg, .slice A.p X.pl.length A.kp, .slice A.v X.vt.length A.kv, .slice A.n X.wn.length A.kn, .slice A.l X.ln.length A.kl, .int .i64 X.sn, .slice A.s X.st.length A.ks] 26)).alloc (.cells #[.int .i64 1, .int .i64 fr, .int .i64 tt, .int .i64 no] 74)).heap[w.heap.size]? = some (.cells #[.slice A.j X.jd.length A.kj, .slice A.g X.gv.length A.kg, .slice A.p X.pl.length A.kp, .slice A.v X.vt.length A.kv, .slice A.n X.wn.length A.kn, .slice A.l X.ln.length A.kl, .int .i64 X.sn, .slice A.s X.st.length A.ks] 26) := heap_mid2 _ _ _
  have hy : ((w.alloc (.cells #[.slice A.j X.jd.length A.kj, .slice A.g X.gv.length A.kg, .slice A.p X.pl.length A.kp, .slice A.v X.vt.length A.kv, .slice A.n X.wn.length A.kn, .slice A.l X.ln.length A.kl, .int .i64 X.sn, .slice A.s X.st.length A.ks] 26)).alloc (.cells #[.int .i64 1, .int .i64 fr, .int .i64 tt, .int .i64 no] 74)).heap[w.heap.size + 1]? = some (.cells #[.int .i64 1, .int .i64 fr, .int .i64 tt, .int .i64 no] 74) := heap_last2 _ _ _
  have x0 := box_cell hx 0
  have y0 := box_cell hy 0
  have y1 := box_cell hy 1
  have y2 := box_cell hy 2
  have y3 := box_cell hy 3
  have hw1 : wrap64 ((X.jd.length : Int) - 1) = (X.jd.length : Int) - 1 := by unfold wrap64; omega
  clear hx hy
  go_enter Try.func51, Try.ntmps51
  go_upto_region 1 with fail
  generalize ((w.alloc (.cells #[.slice A.j X.jd.length A.kj, .slice A.g X.gv.length A.kg, .slice A.p X.pl.length A.kp, .slice A.v X.vt.length A.kv, .slice A.n X.wn.length A.kn, .slice A.l X.ln.length A.kl, .int .i64 X.sn, .slice A.s X.st.length A.ks] 26)).alloc (.cells #[.int .i64 1, .int .i64 fr, .int .i64 tt, .int .i64 no] 74)) = W at *
  have HN := hid (l1In_b no 1 200 W)
  have EP : Hid (ppB (X.jd.length : Int) ⟨1, fr, tt, no⟩ = (plB fr && inB 0 ((X.jd.length : Int) - 1) tt && noB no)) := rfl
  have HQ0 := hid (l1In_b fr 0 1 W)
  have HQ1 := hid (l1In_b tt 0 ((X.jd.length : Int) - 1) W)
  rw [show inB 1 200 no = noB no from rfl] at HN
  rw [show inB 0 1 fr = plB fr from rfl] at HQ0
  generalize plB fr = cp at *
  generalize inB 0 ((X.jd.length : Int) - 1) tt = cj at *
  generalize noB no = cn at *
  go_wp2_with fail
  refine HN.out.mono ?_
  rintro e w2 ⟨rfl, hw2⟩
  rw [hw2]
  clear hw2 HN
  cases cn
  · go_wp2_with fail
    go_ret
    exact ⟨by rw [EP.out]; simp, HB.out⟩
  go_wp2_with fail
  refine HQ0.out.mono ?_
  rintro e w2 ⟨rfl, hw2⟩
  rw [hw2]
  clear hw2 HQ0
  cases cp
  · go_wp2_with fail
    go_ret
    exact ⟨by rw [EP.out]; simp, HB.out⟩
  go_wp2_with fail
  refine HQ1.out.mono ?_
  rintro e w2 ⟨rfl, hw2⟩
  rw [hw2]
  clear hw2 HQ1
  cases cj
  · go_wp2_with fail
    go_ret
    exact ⟨by rw [EP.out]; simp, HB.out⟩
  go_wp2_with fail
  go_ret
  exact ⟨by rw [EP.out]; rfl, HB.out⟩
set_option maxHeartbeats 4000000 in
theorem l13Paper_2 (A : Af) (X : Fc) (fr tt no : Int) (w : World) (hn : X.jd.length ≤ 1048576) :
    Calls Try.prog 51 #[.agg #[.slice A.j X.jd.length A.kj, .slice A.g X.gv.length A.kg, .slice A.p X.pl.length A.kp, .slice A.v X.vt.length A.kv, .slice A.n X.wn.length A.kn, .slice A.l X.ln.length A.kl, .int .i64 X.sn, .slice A.s X.st.length A.ks], .agg #[.int .i64 2, .int .i64 fr, .int .i64 tt, .int .i64 no]] w fun e w' => e = .returned (.bool (ppB X.jd.length ⟨2, fr, tt, no⟩)) ∧ Below w.heap.size w w' := by
  have HB : Hid (Below w.heap.size w ((w.alloc (.cells #[.slice A.j X.jd.length A.kj, .slice A.g X.gv.length A.kg, .slice A.p X.pl.length A.kp, .slice A.v X.vt.length A.kv, .slice A.n X.wn.length A.kn, .slice A.l X.ln.length A.kl, .int .i64 X.sn, .slice A.s X.st.length A.ks] 26)).alloc (.cells #[.int .i64 2, .int .i64 fr, .int .i64 tt, .int .i64 no] 74))) := ((Below.refl _ _).alloc (Nat.le_refl _) _).alloc (by simp) _
  have hx : ((w.alloc (.cells #[.slice A.j X.jd.length A.kj, .slice A.g X.gv.length A.kg, .slice A.p X.pl.length A.kp, .slice A.v X.vt.length A.kv, .slice A.n X.wn.length A.kn, .slice A.l X.ln.length A.kl, .int .i64 X.sn, .slice A.s X.st.length A.ks] 26)).alloc (.cells #[.int .i64 2, .int .i64 fr, .int .i64 tt, .int .i64 no] 74)).heap[w.heap.size]? = some (.cells #[.slice A.j X.jd.length A.kj, .slice A.g X.gv.length A.kg, .slice A.p X.pl.length A.kp, .slice A.v X.vt.length A.kv, .slice A.n X.wn.length A.kn, .slice A.l X.ln.length A.kl, .int .i64 X.sn, .slice A.s X.st.length A.ks] 26) := heap_mid2 _ _ _
  have hy : ((w.alloc (.cells #[.slice A.j X.jd.length A.kj, .slice A.g X.gv.length A.kg, .slice A.p X.pl.length A.kp, .slice A.v X.vt.length A.kv, .slice A.n X.wn.length A.kn, .slice A.l X.ln.length A.kl, .int .i64 X.sn, .slice A.s X.st.length A.ks] 26)).alloc (.cells #[.int .i64 2, .int .i64 fr, .int .i64 tt, .int .i64 no] 74)).heap[w.heap.size + 1]? = some (.cells #[.int .i64 2, .int .i64 fr, .int .i64 tt, .int .i64 no] 74) := heap_last2 _ _ _
  have x0 := box_cell hx 0
  have y0 := box_cell hy 0
  have y1 := box_cell hy 1
  have y2 := box_cell hy 2
  have y3 := box_cell hy 3
  have hw1 : wrap64 ((X.jd.length : Int) - 1) = (X.jd.length : Int) - 1 := by unfold wrap64; omega
  clear hx hy
  go_enter Try.func51, Try.ntmps51
  go_upto_region 1 with fail
  generalize ((w.alloc (.cells #[.slice A.j X.jd.length A.kj, .slice A.g X.gv.length A.kg, .slice A.p X.pl.length A.kp, .slice A.v X.vt.length A.kv, .slice A.n X.wn.length A.kn, .slice A.l X.ln.length A.kl, .int .i64 X.sn, .slice A.s X.st.length A.ks] 26)).alloc (.cells #[.int .i64 2, .int .i64 fr, .int .i64 tt, .int .i64 no] 74)) = W at *
  have HN := hid (l1In_b no 1 200 W)
  have EP : Hid (ppB (X.jd.length : Int) ⟨2, fr, tt, no⟩ = (plB tt && inB 0 ((X.jd.length : Int) - 1) fr && noB no)) := rfl
  have HQ0 := hid (l1In_b fr 0 ((X.jd.length : Int) - 1) W)
  have HQ1 := hid (l1In_b tt 0 1 W)
  rw [show inB 1 200 no = noB no from rfl] at HN
  rw [show inB 0 1 tt = plB tt from rfl] at HQ1
  generalize plB tt = cp at *
  generalize inB 0 ((X.jd.length : Int) - 1) fr = cj at *
  generalize noB no = cn at *
  go_wp2_with fail
  refine HN.out.mono ?_
  rintro e w2 ⟨rfl, hw2⟩
  rw [hw2]
  clear hw2 HN
  cases cn
  · go_wp2_with fail
    go_ret
    exact ⟨by rw [EP.out]; simp, HB.out⟩
  go_wp2_with fail
  refine HQ0.out.mono ?_
  rintro e w2 ⟨rfl, hw2⟩
  rw [hw2]
  clear hw2 HQ0
  cases cj
  · go_wp2_with fail
    go_ret
    exact ⟨by rw [EP.out]; simp, HB.out⟩
  go_wp2_with fail
  refine HQ1.out.mono ?_
  rintro e w2 ⟨rfl, hw2⟩
  rw [hw2]
  clear hw2 HQ1
  cases cp
  · go_wp2_with fail
    go_ret
    exact ⟨by rw [EP.out]; simp, HB.out⟩
  go_wp2_with fail
  go_ret
  exact ⟨by rw [EP.out]; rfl, HB.out⟩
set_option maxHeartbeats 4000000 in
theorem l13Paper_x (A : Af) (X : Fc) (kd : Int) (fr tt no : Int) (w : World) (hn : X.jd.length ≤ 1048576) (k1 : kd ≠ 1) (k2 : kd ≠ 2) :
    Calls Try.prog 51 #[.agg #[.slice A.j X.jd.length A.kj, .slice A.g X.gv.length A.kg, .slice A.p X.pl.length A.kp, .slice A.v X.vt.length A.kv, .slice A.n X.wn.length A.kn, .slice A.l X.ln.length A.kl, .int .i64 X.sn, .slice A.s X.st.length A.ks], .agg #[.int .i64 kd, .int .i64 fr, .int .i64 tt, .int .i64 no]] w fun e w' => e = .returned (.bool (ppB X.jd.length ⟨kd, fr, tt, no⟩)) ∧ Below w.heap.size w w' := by
  have HB : Hid (Below w.heap.size w ((w.alloc (.cells #[.slice A.j X.jd.length A.kj, .slice A.g X.gv.length A.kg, .slice A.p X.pl.length A.kp, .slice A.v X.vt.length A.kv, .slice A.n X.wn.length A.kn, .slice A.l X.ln.length A.kl, .int .i64 X.sn, .slice A.s X.st.length A.ks] 26)).alloc (.cells #[.int .i64 kd, .int .i64 fr, .int .i64 tt, .int .i64 no] 74))) := ((Below.refl _ _).alloc (Nat.le_refl _) _).alloc (by simp) _
  have hx : ((w.alloc (.cells #[.slice A.j X.jd.length A.kj, .slice A.g X.gv.length A.kg, .slice A.p X.pl.length A.kp, .slice A.v X.vt.length A.kv, .slice A.n X.wn.length A.kn, .slice A.l X.ln.length A.kl, .int .i64 X.sn, .slice A.s X.st.length A.ks] 26)).alloc (.cells #[.int .i64 kd, .int .i64 fr, .int .i64 tt, .int .i64 no] 74)).heap[w.heap.size]? = some (.cells #[.slice A.j X.jd.length A.kj, .slice A.g X.gv.length A.kg, .slice A.p X.pl.length A.kp, .slice A.v X.vt.length A.kv, .slice A.n X.wn.length A.kn, .slice A.l X.ln.length A.kl, .int .i64 X.sn, .slice A.s X.st.length A.ks] 26) := heap_mid2 _ _ _
  have hy : ((w.alloc (.cells #[.slice A.j X.jd.length A.kj, .slice A.g X.gv.length A.kg, .slice A.p X.pl.length A.kp, .slice A.v X.vt.length A.kv, .slice A.n X.wn.length A.kn, .slice A.l X.ln.length A.kl, .int .i64 X.sn, .slice A.s X.st.length A.ks] 26)).alloc (.cells #[.int .i64 kd, .int .i64 fr, .int .i64 tt, .int .i64 no] 74)).heap[w.heap.size + 1]? = some (.cells #[.int .i64 kd, .int .i64 fr, .int .i64 tt, .int .i64 no] 74) := heap_last2 _ _ _
  have x0 := box_cell hx 0
  have y0 := box_cell hy 0
  have y1 := box_cell hy 1
  have y2 := box_cell hy 2
  have y3 := box_cell hy 3
  have hw1 : wrap64 ((X.jd.length : Int) - 1) = (X.jd.length : Int) - 1 := by unfold wrap64; omega
  clear hx hy
  have d1 : (kd == 1) = false := beq_eq_false_iff_ne.2 k1
  have d2 : (kd == 2) = false := beq_eq_false_iff_ne.2 k2
  have d3 : decide (kd = 1) = false := decide_eq_false k1
  have d4 : decide (kd = 2) = false := decide_eq_false k2
  go_enter Try.func51, Try.ntmps51
  go_upto_region 1 with fail
  generalize ((w.alloc (.cells #[.slice A.j X.jd.length A.kj, .slice A.g X.gv.length A.kg, .slice A.p X.pl.length A.kp, .slice A.v X.vt.length A.kv, .slice A.n X.wn.length A.kn, .slice A.l X.ln.length A.kl, .int .i64 X.sn, .slice A.s X.st.length A.ks] 26)).alloc (.cells #[.int .i64 kd, .int .i64 fr, .int .i64 tt, .int .i64 no] 74)) = W at *
  have HN := hid (l1In_b no 1 200 W)
  have EP : Hid (ppB (X.jd.length : Int) ⟨kd, fr, tt, no⟩ = false) := by show ppB (X.jd.length : Int) ⟨kd, fr, tt, no⟩ = false; unfold ppB; rw [if_neg k1, if_neg k2]
  clear k1 k2
  rw [show inB 1 200 no = noB no from rfl] at HN
  generalize noB no = cn at *
  go_wp2_with fail
  refine HN.out.mono ?_
  rintro e w2 ⟨rfl, hw2⟩
  rw [hw2]
  clear hw2 HN
  cases cn
  · go_wp2_with fail
    go_ret
    exact ⟨by rw [EP.out]; rfl, HB.out⟩
  go_wp2_with fail
  go_ret
  exact ⟨by rw [EP.out]; rfl, HB.out⟩
theorem l13Paper_any (A : Af) (X : Fc) (p : Pp) (w : World) (hn : X.jd.length ≤ 1048576) :
    Calls Try.prog 51 #[.agg #[.slice A.j X.jd.length A.kj, .slice A.g X.gv.length A.kg, .slice A.p X.pl.length A.kp, .slice A.v X.vt.length A.kv, .slice A.n X.wn.length A.kn, .slice A.l X.ln.length A.kl, .int .i64 X.sn, .slice A.s X.st.length A.ks], .agg #[.int .i64 p.kd, .int .i64 p.fr, .int .i64 p.tt, .int .i64 p.no]] w fun e w' => e = .returned (.bool (ppB X.jd.length p)) ∧ Below w.heap.size w w' := by
  obtain ⟨kd, fr, tt, no⟩ := p
  by_cases k1 : kd = 1
  · subst k1; exact l13Paper_1 A X fr tt no w hn
  · by_cases k2 : kd = 2
    · subst k2; exact l13Paper_2 A X fr tt no w hn
    · exact l13Paper_x A X kd fr tt no w hn k1 k2
end Go.Proofs.Ytikmkkklgdkpaaa
