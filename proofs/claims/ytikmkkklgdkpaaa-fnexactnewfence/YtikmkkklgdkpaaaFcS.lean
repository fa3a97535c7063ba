/- The model's GoodFence. -/
import Derived.Test.YtikmkkklgdkpaaaFcI
namespace Go.Proofs.Ytikmkkklgdkpaaa
set_option maxRecDepth 100000
open Go Go.ChangeShapes Go.WideShapes Go.ChangeAt Go.RowKit
/-- what a good fence has -/
structure GF (X : Fc) : Prop where
  j1 : 1 ≤ X.jd.length
  j5 : X.jd.length ≤ 5
  gl : X.gv.length = X.jd.length
  pr : ∀ k, k < X.jd.length → promB (X.jd.getD k 0) (X.gv.getD k 0) = true
  p2 : X.pl.length = 2
  v2 : X.vt.length = 2
  pk : ∀ k, k < 2 → (noOr (X.pl.getD k 0) && votesV X.jd.length (X.vt.getD k [])) = true
  l30 : X.ln.length ≤ 30
  lp : ∀ j (h : j < X.ln.length), ppB X.jd.length X.ln[j] = true
  wn : prOk X.wn = true
  st : prOk X.st = true
  sn : noOr X.sn = true
theorem goodF_gf {X : Fc} (h : goodF X = true) : GF X := by
  unfold goodF at h
  rw [Bool.and_eq_true, Bool.and_eq_true, Bool.and_eq_true, Bool.and_eq_true, Bool.and_eq_true] at h
  obtain ⟨h1, h2, h3, h4, h5, h6⟩ := h
  unfold jdOk at h1
  rw [Bool.and_eq_true, Bool.and_eq_true] at h1
  obtain ⟨⟨a1, a2⟩, a3⟩ := h1
  unfold plaOk at h2
  rw [Bool.and_eq_true, Bool.and_eq_true] at h2
  obtain ⟨⟨b1, b2⟩, b3⟩ := h2
  unfold lnOk at h3
  rw [Bool.and_eq_true] at h3
  have hj := judgesN_yes a1
  exact ⟨by omega, by omega, of_decide_eq_true a2, rng_at a3, of_decide_eq_true b1, of_decide_eq_true b2, rng_at b3, of_decide_eq_true h3.1, all_at h3.2, h4, h5, h6⟩
theorem gf_goodF {X : Fc} (g : GF X) : goodF X = true := by
  have hj : judgesN (X.jd.length : Int) = true := by unfold judgesN; rw [decide_eq_true (by have := g.j1; omega), decide_eq_true (by have := g.j5; omega)]; rfl
  unfold goodF jdOk plaOk lnOk
  rw [hj, decide_eq_true g.gl, rng_all g.pr, decide_eq_true g.p2, decide_eq_true g.v2, rng_all g.pk, decide_eq_true g.l30, all_all g.lp, g.wn, g.st, g.sn]
  rfl
theorem goodF_no {X : Fc} (h : ¬ GF X) : goodF X = false := by
  cases e : goodF X
  · rfl
  · exact absurd (goodF_gf e) h
theorem noOr_in (x : Int) : noOr x = inB 0 200 x := by
  unfold noOr noB inB
  by_cases h0 : x = 0
  · subst h0; decide
  · rw [decide_eq_false h0]
    by_cases h1 : 0 ≤ x
    · rw [decide_eq_true h1, decide_eq_true (p := (1 : Int) ≤ x) (by omega)]; rfl
    · rw [decide_eq_false h1, decide_eq_false (p := (1 : Int) ≤ x) (by omega)]; rfl
theorem promB_in {n g : Int} (h : promB n g = true) : 0 ≤ n ∧ n ≤ 200 := by
  unfold promB at h
  by_cases h0 : n = 0
  · omega
  · rw [if_neg h0, Bool.and_eq_true] at h
    have := inB_at h.1
    omega
/-- what the model asks of a number that was given -/
def gvB (n g : Int) : Bool := inB (-1) 1 g && (!(decide (g < 0) && decide (n ≠ 0)) && !(decide (0 ≤ g) && decide (n = 0)))
theorem gvB_prom {n g : Int} (h : inB 0 200 n = true) : promB n g = gvB n g := by
  have hn := inB_at h
  unfold promB gvB
  by_cases h0 : n = 0
  · subst h0
    rw [if_pos rfl]
    by_cases g0 : g = -1
    · subst g0; decide
    · rw [decide_eq_false g0]
      by_cases gp : 0 ≤ g
      · rw [decide_eq_true gp]; simp
      · rw [inB_no (by omega)]; rfl
  · rw [if_neg h0, decide_eq_false h0, decide_eq_true (p := n ≠ 0) h0, show noB n = true from inB_yes (by omega) hn.2]
    by_cases gp : 0 ≤ g
    · rw [decide_eq_false (p := g < 0) (by omega), decide_eq_true gp]
      unfold plB inB
      rw [decide_eq_true gp, decide_eq_true (p := (-1 : Int) ≤ g) (by omega)]; simp
    · rw [decide_eq_true (p := g < 0) (by omega)]
      unfold plB
      rw [inB_no (by omega)]; simp
theorem GF.jin {X : Fc} (g : GF X) : allIn X.jd 0 200 = true := allIn_all _ _ _ (fun j hj => by
  have := promB_in (g.pr j hj)
  rwa [getD_in _ _ _ hj] at this)
theorem GF.pin {X : Fc} (g : GF X) : allIn X.pl 0 200 = true := allIn_all _ _ _ (fun j hj => by
  have h := g.pk j (by have := g.p2; omega)
  rw [Bool.and_eq_true, getD_in _ _ _ hj, noOr_in] at h
  exact inB_at h.1)
theorem GF.gin {X : Fc} (g : GF X) (k : Nat) (hk : k < X.jd.length) (hg : k < X.gv.length) : gvB X.jd[k] X.gv[k] = true := by
  have h := g.pr k hk
  have h2 := allIn_at _ _ _ g.jin k hk
  rw [getD_in _ _ _ hk, getD_in _ _ _ hg, gvB_prom (inB_yes h2.1 h2.2)] at h
  exact h
theorem GF.v0 {X : Fc} (g : GF X) (k : Nat) (hk : k < X.vt.length) : upV ((X.jd.length : Int) - 1) (-1) X.vt[k] = true := by
  have h := g.pk k (by have := g.v2; omega)
  rw [Bool.and_eq_true, getD_in _ _ _ hk] at h
  exact h.2
theorem upV_votes (m : Int) (l : List Int) : upV (m - 1) (-1) l = votesV m l := rfl
set_option maxHeartbeats 16000000 in
theorem sgoodF_any (A : Af) (X : Fc) (w : World) (hf : FitF X) (h : FR w.heap.size A X w) :
    Calls Try.prog 15 #[.agg #[.slice A.j X.jd.length A.kj, .slice A.g X.gv.length A.kg, .slice A.p X.pl.length A.kp, .slice A.v X.vt.length A.kv, .slice A.n X.wn.length A.kn, .slice A.l X.ln.length A.kl, .int .i64 X.sn, .slice A.s X.st.length A.ks]] w fun e w' => e = .returned (.bool (goodF X)) ∧ Below w.heap.size w w' := by
  have HBW := hid (boxB w (.cells #[.slice A.j X.jd.length A.kj, .slice A.g X.gv.length A.kg, .slice A.p X.pl.length A.kp, .slice A.v X.vt.length A.kv, .slice A.n X.wn.length A.kn, .slice A.l X.ln.length A.kl, .int .i64 X.sn, .slice A.s X.st.length A.ks] 26))
  have HK := hid (heap_last w (.cells #[.slice A.j X.jd.length A.kj, .slice A.g X.gv.length A.kg, .slice A.p X.pl.length A.kp, .slice A.v X.vt.length A.kv, .slice A.n X.wn.length A.kn, .slice A.l X.ln.length A.kl, .int .i64 X.sn, .slice A.s X.st.length A.ks] 26))
  have HZ : Hid (∀ v, Below w.heap.size w v → FR v.heap.size A X v) := fun v g => h.up g g.size
  have HF := hid hf
  have n0 := hf.j
  have n1 := hf.g
  have n2 := hf.p
  have n3 := hf.v.1
  have n4 := hf.l
  clear h hf
  go_enter Try.func15, Try.ntmps15
  go_upto_region 1 with fail
  generalize w.alloc (.cells #[.slice A.j X.jd.length A.kj, .slice A.g X.gv.length A.kg, .slice A.p X.pl.length A.kp, .slice A.v X.vt.length A.kv, .slice A.n X.wn.length A.kn, .slice A.l X.ln.length A.kl, .int .i64 X.sn, .slice A.s X.st.length A.ks] 26) = W at *
  have x0 : W.cell? ⟨w.heap.size, 0, none⟩ = some (.slice A.j X.jd.length A.kj) := box_cell HK.out 0
  have x1 : W.cell? ⟨w.heap.size, 1, none⟩ = some (.slice A.g X.gv.length A.kg) := box_cell HK.out 1
  have x2 : W.cell? ⟨w.heap.size, 2, none⟩ = some (.slice A.p X.pl.length A.kp) := box_cell HK.out 2
  have x3 : W.cell? ⟨w.heap.size, 3, none⟩ = some (.slice A.v X.vt.length A.kv) := box_cell HK.out 3
  have x4 : W.cell? ⟨w.heap.size, 4, none⟩ = some (.slice A.n X.wn.length A.kn) := box_cell HK.out 4
  have x5 : W.cell? ⟨w.heap.size, 5, none⟩ = some (.slice A.l X.ln.length A.kl) := box_cell HK.out 5
  have x6 : W.cell? ⟨w.heap.size, 6, none⟩ = some (.int .i64 X.sn) := box_cell HK.out 6
  have x7 : W.cell? ⟨w.heap.size, 7, none⟩ = some (.slice A.s X.st.length A.ks) := box_cell HK.out 7
  have hz := hid (HZ.out W HBW.out)
  by_cases hj : 1 ≤ (X.jd.length : Int) ∧ (X.jd.length : Int) ≤ 5
  case neg =>
    have HX := hid (l1In_no (X.jd.length : Int) 1 5 W (by omega))
    have HE : Hid (goodF X = false) := goodF_no (fun g => hj (by have := g.j1; have := g.j5; omega))
    clear hj
    go_wp2_with fail
    refine HX.out.mono ?_
    rintro e w2 ⟨rfl, hw2⟩
    rw [hw2]
    clear hw2
    go_wp2_with fail
    go_ret
    exact ⟨ret_b2 HE.out.symm, HBW.out⟩
  obtain ⟨j1, j5⟩ := hj
  have HX := hid (l1In_yes (X.jd.length : Int) 1 5 W j1 j5)
  have HJ1 : Hid (1 ≤ X.jd.length ∧ X.jd.length ≤ 5) := ⟨by omega, by omega⟩
  clear j1 j5
  go_wp2_with fail
  refine HX.out.mono ?_
  rintro e w2 ⟨rfl, hw2⟩
  rw [hw2]
  clear hw2
  clear HX
  have HA := hid (l1All_any A.j A.kj X.jd 0 200 W n0 hz.out.j)
  have HAE : Hid (GF X → allIn X.jd 0 200 = true) := fun g => g.jin
  have HAT : Hid (allIn X.jd 0 200 = true → ∀ j (hj : j < X.jd.length), inB 0 200 X.jd[j] = true) := fun h j hj => by have := allIn_at _ _ _ h j hj; exact inB_yes this.1 this.2
  generalize allIn X.jd 0 200 = c at *
  go_wp2_with fail
  refine HA.out.mono ?_
  rintro e w2 ⟨rfl, hw2⟩
  rw [hw2]
  clear hw2
  clear HA
  cases c
  · have HE : Hid (goodF X = false) := goodF_no (fun g => by have := HAE.out g; cases this)
    clear HAE HAT
    go_wp2_with fail
    go_ret
    exact ⟨ret_b2 HE.out.symm, HBW.out⟩
  have HJ := hid (HAT.out rfl)
  clear HAE HAT
  by_cases hg : X.gv.length = X.jd.length
  case neg =>
    have HE : Hid (goodF X = false) := goodF_no (fun g => hg g.gl)
    have d1 : ((X.gv.length : Int) == (X.jd.length : Int)) = false := beq_eq_false_iff_ne.2 (by omega)
    have d2 : ((X.gv.length : Int) != (X.jd.length : Int)) = true := bne_iff_ne.2 (by omega)
    have d3 : decide ((X.gv.length : Int) = (X.jd.length : Int)) = false := decide_eq_false (by omega)
    clear hg
    go_wp2_with fail
    go_ret
    exact ⟨ret_b2 HE.out.symm, HBW.out⟩
  have HGL := hid hg
  have g1 : ((X.gv.length : Int) == (X.jd.length : Int)) = true := beq_iff_eq.2 (by omega)
  have g2 : ((X.gv.length : Int) != (X.jd.length : Int)) = false := by rw [bne, g1]; rfl
  have g3 : decide ((X.gv.length : Int) = (X.jd.length : Int)) = true := decide_eq_true (by omega)
  clear hg
  by_cases hp : X.pl.length = 2
  case neg =>
    have HE : Hid (goodF X = false) := goodF_no (fun g => hp g.p2)
    have d1 : ((X.pl.length : Int) == 2) = false := beq_eq_false_iff_ne.2 (by omega)
    have d2 : ((X.pl.length : Int) != 2) = true := bne_iff_ne.2 (by omega)
    have d3 : decide ((X.pl.length : Int) = 2) = false := decide_eq_false (by omega)
    clear hp
    go_wp2_with fail
    go_ret
    exact ⟨ret_b2 HE.out.symm, HBW.out⟩
  have HP2 := hid hp
  have p1 : ((X.pl.length : Int) == 2) = true := beq_iff_eq.2 (by omega)
  have p2 : ((X.pl.length : Int) != 2) = false := by rw [bne, p1]; rfl
  have p3 : decide ((X.pl.length : Int) = 2) = true := decide_eq_true (by omega)
  clear hp
  have HA := hid (l1All_any A.p A.kp X.pl 0 200 W n2 hz.out.p)
  have HAE : Hid (GF X → allIn X.pl 0 200 = true) := fun g => g.pin
  have HAT : Hid (allIn X.pl 0 200 = true → ∀ j (hj : j < X.pl.length), inB 0 200 X.pl[j] = true) := fun h j hj => by have := allIn_at _ _ _ h j hj; exact inB_yes this.1 this.2
  generalize allIn X.pl 0 200 = c at *
  go_wp2_with fail
  refine HA.out.mono ?_
  rintro e w2 ⟨rfl, hw2⟩
  rw [hw2]
  clear hw2
  clear HA
  cases c
  · have HE : Hid (goodF X = false) := goodF_no (fun g => by have := HAE.out g; cases this)
    clear HAE HAT
    go_wp2_with fail
    go_ret
    exact ⟨ret_b2 HE.out.symm, HBW.out⟩
  have HPL := hid (HAT.out rfl)
  clear HAE HAT
  by_cases hv : X.vt.length = 2
  case neg =>
    have HE : Hid (goodF X = false) := goodF_no (fun g => hv g.v2)
    have d1 : ((X.vt.length : Int) == 2) = false := beq_eq_false_iff_ne.2 (by omega)
    have d2 : ((X.vt.length : Int) != 2) = true := bne_iff_ne.2 (by omega)
    have d3 : decide ((X.vt.length : Int) = 2) = false := decide_eq_false (by omega)
    clear hv
    go_wp2_with fail
    go_ret
    exact ⟨ret_b2 HE.out.symm, HBW.out⟩
  have HV2 := hid hv
  have v1 : ((X.vt.length : Int) == 2) = true := beq_iff_eq.2 (by omega)
  have v2 : ((X.vt.length : Int) != 2) = false := by rw [bne, v1]; rfl
  have v3 : decide ((X.vt.length : Int) = 2) = true := decide_eq_true (by omega)
  clear hv
  by_cases hl : X.ln.length ≤ 30
  case neg =>
    have HE : Hid (goodF X = false) := goodF_no (fun g => hl g.l30)
    have d1 : decide ((30 : Int) < (X.ln.length : Int)) = true := decide_eq_true (by omega)
    clear hl
    go_wp2_with fail
    go_ret
    exact ⟨ret_b2 HE.out.symm, HBW.out⟩
  have HL30 := hid hl
  have l1 : decide ((30 : Int) < (X.ln.length : Int)) = false := decide_eq_false (by omega)
  clear hl
  have HS := hid (l1In_b X.sn 0 200 W)
  have ES := hid (noOr_in X.sn)
  have HW4 := hid (l13Pairs_any A.n A.kn X.wn W HF.out.n hz.out.n)
  have HW5 := hid (l13Pairs_any A.s A.ks X.st W HF.out.s hz.out.s)
  have EW : Hid (GF X → prOk X.wn = true) := fun g => g.wn
  have EV : Hid (GF X → prOk X.st = true) := fun g => g.st
  have EQ : Hid (GF X → inB 0 200 X.sn = true) := fun g => by rw [← ES.out]; exact g.sn
  have FW : Hid (∀ b, b = prOk X.wn → b = true → prOk X.wn = true) := fun b h1 h2 => h1.symm.trans h2
  cases hs : inB 0 200 X.sn
  · have HE : Hid (goodF X = false) := goodF_no (fun g => by have := EQ.out g; rw [hs] at this; cases this)
    rw [hs] at HS
    clear hs
    go_wp2_with fail
    refine HS.out.mono ?_
    rintro e w2 ⟨rfl, hw2⟩
    rw [hw2]
    clear hw2
    go_wp2_with fail
    go_ret
    exact ⟨ret_b2 HE.out.symm, HBW.out⟩
  have HSN : Hid (noOr X.sn = true) := ES.out.trans hs
  rw [hs] at HS
  clear hs
  go_wp2_with fail
  refine HS.out.mono ?_
  rintro e w2 ⟨rfl, hw2⟩
  rw [hw2]
  clear hw2
  clear HS
  cases hs : prOk X.wn
  · have HE : Hid (goodF X = false) := goodF_no (fun g => by have := EW.out g; rw [hs] at this; cases this)
    rw [hs] at HW4
    clear hs
    go_wp2_with fail
    refine HW4.out.mono ?_
    rintro e w2 ⟨rfl, hw2⟩
    rw [hw2]
    clear hw2
    go_wp2_with fail
    go_ret
    exact ⟨ret_b2 HE.out.symm, HBW.out⟩
  have HWN := hid hs
  rw [hs] at HW4
  clear hs
  go_wp2_with fail
  refine HW4.out.mono ?_
  rintro e w2 ⟨rfl, hw2⟩
  rw [hw2]
  clear hw2
  clear HW4
  cases hs : prOk X.st
  · have HE : Hid (goodF X = false) := goodF_no (fun g => by have := EV.out g; rw [hs] at this; cases this)
    rw [hs] at HW5
    clear hs
    go_wp2_with fail
    refine HW5.out.mono ?_
    rintro e w2 ⟨rfl, hw2⟩
    rw [hw2]
    clear hw2
    go_wp2_with fail
    go_ret
    exact ⟨ret_b2 HE.out.symm, HBW.out⟩
  have HST := hid hs
  rw [hs] at HW5
  clear hs
  go_wp2_with fail
  refine HW5.out.mono ?_
  rintro e w2 ⟨rfl, hw2⟩
  rw [hw2]
  clear hw2
  clear HW5 EW EV EQ FW ES
  go_wp2_with fail
  clear g1 g2 g3 p1 p2 p3 v1 v2 v3 l1
  go_loopw [72] (fun i wr => ∃ k : Nat, k ≤ X.gv.length ∧ i = .int .i64 k ∧ (∀ j (h1 : j < X.jd.length) (h2 : j < X.gv.length), j < k → gvB X.jd[j] X.gv[j] = true) ∧ wr = W) (fun i _ => X.gv.length - (intOf i).toNat)
  case atStart => exact ⟨0, Nat.zero_le _, rfl, (fun _ _ _ h => absurd h (Nat.not_lt_zero _)), rfl⟩
  case round =>
    obtain ⟨k, hk, rfl, hall, hwr⟩ := hrel
    obtain rfl := hwr.symm
    have HALL := hid hall
    clear hall
    by_cases hlt : k < X.gv.length
    · have hlj : k < X.jd.length := by have := HGL.out; omega
      obtain ⟨bj, oj, ej, hbj, hcj⟩ := hz.out.j.cell (by omega)
      obtain ⟨bg, og, eg, hbg, hcg⟩ := hz.out.g.cell (by omega)
      have y0 := hcg k hlt
      have z0 := hcj k hlj
      rw [ej] at x0
      rw [eg] at x1
      have HBAD : Hid (gvB X.jd[k] X.gv[k] = false → goodF X = false) := fun h => goodF_no (fun g => by have := g.gin k hlj hlt; rw [h] at this; cases this)
      have HGO : Hid (gvB X.jd[k] X.gv[k] = true → ∀ j (h1 : j < X.jd.length) (h2 : j < X.gv.length), j < k + 1 → gvB X.jd[j] X.gv[j] = true) := fun h j h1 h2 hjk => by
        by_cases e : j = k
        · subst e; exact h
        · exact HALL.out j h1 h2 (by omega)
      have HGV := hid (l1In_b X.gv[k] (-1) 1 W)
      clear hcj hcg
      rw [eg]
      generalize X.jd[k] = n at *
      generalize X.gv[k] = g at *
      clear ej eg
      have EGV : Hid (gvB n g = (inB (-1) 1 g && (!(decide (g < 0) && decide (n ≠ 0)) && !(decide (0 ≤ g) && decide (n = 0))))) := rfl
      cases hi : inB (-1) 1 g
      · have HE := hid (HBAD.out (by rw [EGV.out, hi]; rfl))
        rw [hi] at HGV
        clear hi HBAD HGO
        go_wp2_with fail
        refine HGV.out.mono ?_
        rintro e w2 ⟨rfl, hw2⟩
        rw [hw2]
        clear hw2
        go_wp2_with fail
        go_ret
        exact ⟨ret_b2 HE.out.symm, HBW.out⟩
      have HI := hid hi
      rw [hi] at HGV
      clear hi
      by_cases g0 : g < 0
      · have d1 : decide (g < 0) = true := decide_eq_true g0
        have d2 : decide ((0 : Int) ≤ g) = false := decide_eq_false (by omega)
        by_cases n0 : n = 0
        · have d3 : (n == 0) = true := beq_iff_eq.2 n0
          have d4 : (n != 0) = false := by rw [bne, d3]; rfl
          have d5 : decide (n = 0) = true := decide_eq_true n0
          have HG := hid (HGO.out (by rw [EGV.out, HI.out, d1, d2, decide_eq_false (p := n ≠ 0) (by omega)]; rfl))
          clear HBAD HGO g0 n0
          go_wp2_with fail
          refine HGV.out.mono ?_
          rintro e w2 ⟨rfl, hw2⟩
          rw [hw2]
          clear hw2
          go_wp2_with fail
          go_roundw
          case rel => exact ⟨k + 1, by omega, by go_num, HG.out, by trivial⟩
          case measure => simp [intOf]; omega
        · have d3 : (n == 0) = false := beq_eq_false_iff_ne.2 n0
          have d4 : (n != 0) = true := by rw [bne, d3]; rfl
          have d5 : decide (n = 0) = false := decide_eq_false n0
          have HE := hid (HBAD.out (by rw [EGV.out, HI.out, d1, decide_eq_true (p := n ≠ 0) n0]; rfl))
          clear HBAD HGO g0 n0
          go_wp2_with fail
          refine HGV.out.mono ?_
          rintro e w2 ⟨rfl, hw2⟩
          rw [hw2]
          clear hw2
          go_wp2_with fail
          go_ret
          exact ⟨ret_b2 HE.out.symm, HBW.out⟩
      · have d1 : decide (g < 0) = false := decide_eq_false g0
        have d2 : decide ((0 : Int) ≤ g) = true := decide_eq_true (by omega)
        by_cases n0 : n = 0
        · have d3 : (n == 0) = true := beq_iff_eq.2 n0
          have d4 : (n != 0) = false := by rw [bne, d3]; rfl
          have d5 : decide (n = 0) = true := decide_eq_true n0
          have HE := hid (HBAD.out (by rw [EGV.out, HI.out, d1, d2, d5]; rfl))
          clear HBAD HGO g0 n0
          go_wp2_with fail
          refine HGV.out.mono ?_
          rintro e w2 ⟨rfl, hw2⟩
          rw [hw2]
          clear hw2
          go_wp2_with fail
          go_ret
          exact ⟨ret_b2 HE.out.symm, HBW.out⟩
        · have d3 : (n == 0) = false := beq_eq_false_iff_ne.2 n0
          have d4 : (n != 0) = true := by rw [bne, d3]; rfl
          have d5 : decide (n = 0) = false := decide_eq_false n0
          have HG := hid (HGO.out (by rw [EGV.out, HI.out, d1, d2, d5]; rfl))
          clear HBAD HGO g0 n0
          go_wp2_with fail
          refine HGV.out.mono ?_
          rintro e w2 ⟨rfl, hw2⟩
          rw [hw2]
          clear hw2
          go_wp2_with fail
          go_roundw
          case rel => exact ⟨k + 1, by omega, by go_num, HG.out, by trivial⟩
          case measure => simp [intOf]; omega
    obtain rfl : k = X.gv.length := by omega
    have HGA : Hid (∀ j (h1 : j < X.jd.length) (h2 : j < X.gv.length), gvB X.jd[j] X.gv[j] = true) := fun j h1 h2 => HALL.out j h1 h2 h2
    clear HALL hlt hk
    go_wp2_with fail
    go_loopw [108] (fun i wx => ∃ k : Nat, k ≤ X.ln.length ∧ i = .int .i64 k ∧ (∀ j (h : j < X.ln.length), j < k → ppB X.jd.length X.ln[j] = true) ∧ Below W.heap.size W wx) (fun i _ => X.ln.length - (intOf i).toNat)
    case atStart => exact ⟨0, Nat.zero_le _, rfl, (fun _ _ h => absurd h (Nat.not_lt_zero _)), Below.refl _ _⟩
    case round =>
      obtain ⟨k, hk, rfl, hall, hbel⟩ := hrel
      have HALL := hid hall
      have HBEL := hid hbel
      have HKX := hid ((hbel.block _ (kbox HK.out)).trans HK.out)
      clear hall x0 x1 x2 x3 x4 x5 x6 x7
      have HBX : Hid (Below w.heap.size w wr) := HBW.out.trans (hbel.mono HBW.out.size)
      by_cases hlt : k < X.ln.length
      · obtain ⟨bl, ol, el, hbl, hcl⟩ := hz.out.l.cell (by omega)
        obtain ⟨y0, y1, y2, y3⟩ := hcl k hlt
        have hb' : ∀ o, wr.cell? ⟨bl, o, none⟩ = W.cell? ⟨bl, o, none⟩ := fun o => hbel.cell (p := ⟨bl, o, none⟩) hbl
        rw [← hb'] at y0 y1 y2 y3
        clear hcl hb' hbel
        have HKA := hid (((boxB wr (.cells #[.int .i64 X.ln[k].kd, .int .i64 X.ln[k].fr, .int .i64 X.ln[k].tt, .int .i64 X.ln[k].no] 74)).block _ (kbox HKX.out)).trans HKX.out)
        have HLA := hid (heap_last wr (.cells #[.int .i64 X.ln[k].kd, .int .i64 X.ln[k].fr, .int .i64 X.ln[k].tt, .int .i64 X.ln[k].no] 74))
        rw [el]
        have HPP := hid (fun v => l13Paper_any A X X.ln[k] v n0)
        have HB1 := hid (HBX.out.trans ((boxB wr (.cells #[.int .i64 X.ln[k].kd, .int .i64 X.ln[k].fr, .int .i64 X.ln[k].tt, .int .i64 X.ln[k].no] 74)).mono HBX.out.size))
        have HBR := hid (HBEL.out.trans ((boxB wr (.cells #[.int .i64 X.ln[k].kd, .int .i64 X.ln[k].fr, .int .i64 X.ln[k].tt, .int .i64 X.ln[k].no] 74)).mono HBEL.out.size))
        have HBAD : Hid (ppB X.jd.length X.ln[k] = false → goodF X = false) := fun h => goodF_no (fun g => by have := g.lp k hlt; rw [h] at this; cases this)
        have HGO : Hid (ppB X.jd.length X.ln[k] = true → ∀ j (hj : j < X.ln.length), j < k + 1 → ppB X.jd.length X.ln[j] = true) := fun h j hj hjk => by
          by_cases e : j = k
          · subst e; exact h
          · exact HALL.out j hj (by omega)
        clear el
        generalize X.ln[k].kd = p0 at *
        generalize X.ln[k].fr = p1 at *
        generalize X.ln[k].tt = p2 at *
        generalize X.ln[k].no = p3 at *
        generalize ppB X.jd.length X.ln[k] = r at *
        go_upto_region 13 with fail
        generalize wr.alloc (.cells #[.int .i64 p0, .int .i64 p1, .int .i64 p2, .int .i64 p3] 74) = V at *
        have x0 : V.cell? ⟨w.heap.size, 0, none⟩ = some (.slice A.j X.jd.length A.kj) := box_cell HKA.out 0
        have x1 : V.cell? ⟨w.heap.size, 1, none⟩ = some (.slice A.g X.gv.length A.kg) := box_cell HKA.out 1
        have x2 : V.cell? ⟨w.heap.size, 2, none⟩ = some (.slice A.p X.pl.length A.kp) := box_cell HKA.out 2
        have x3 : V.cell? ⟨w.heap.size, 3, none⟩ = some (.slice A.v X.vt.length A.kv) := box_cell HKA.out 3
        have x4 : V.cell? ⟨w.heap.size, 4, none⟩ = some (.slice A.n X.wn.length A.kn) := box_cell HKA.out 4
        have x5 : V.cell? ⟨w.heap.size, 5, none⟩ = some (.slice A.l X.ln.length A.kl) := box_cell HKA.out 5
        have x6 : V.cell? ⟨w.heap.size, 6, none⟩ = some (.int .i64 X.sn) := box_cell HKA.out 6
        have x7 : V.cell? ⟨w.heap.size, 7, none⟩ = some (.slice A.s X.st.length A.ks) := box_cell HKA.out 7
        have z0 := box_cell HLA.out 0
        have z1 := box_cell HLA.out 1
        have z2 := box_cell HLA.out 2
        have z3 := box_cell HLA.out 3
        clear HKA HLA y0 y1 y2 y3
        go_wp2_with fail
        refine (HPP.out _).mono ?_
        rintro e w2 ⟨rfl, b2⟩
        have HB2 := hid (HB1.out.trans (b2.mono HB1.out.size))
        have HBR2 := hid (HBR.out.trans (b2.mono HBR.out.size))
        clear b2 HPP z0 z1 z2 z3 x0 x1 x2 x3 x4 x5 x6 x7
        cases r
        · have HE := hid (HBAD.out rfl)
          clear HBAD HGO
          go_wp2_with fail
          go_ret
          exact ⟨ret_b2 HE.out.symm, HB2.out⟩
        have HG := hid (HGO.out rfl)
        clear HBAD HGO
        go_wp2_with fail
        go_roundw
        case rel => exact ⟨k + 1, by omega, by go_num, HG.out, HBR2.out⟩
        case measure => simp [intOf]; omega
      obtain rfl : k = X.ln.length := by omega
      have HLA : Hid (∀ j (h : j < X.ln.length), ppB X.jd.length X.ln[j] = true) := fun j h => HALL.out j h h
      clear HALL hlt hk hbel
      have hzz := hid (HZ.out wr HBX.out)
      obtain ⟨bv, ov, ev, hbv, hcv⟩ := hzz.out.v.cell (by have := HV2.out; omega)
      obtain ⟨q0, c0, y0, i0⟩ := hcv 0 (by have := HV2.out; omega)
      obtain ⟨q1, c1, y1, i1⟩ := hcv 1 (by have := HV2.out; omega)
      rw [Nat.add_zero] at y0
      have hw1 : wrap64 ((X.jd.length : Int) - 1) = (X.jd.length : Int) - 1 := by unfold wrap64; omega
      have HV0 := hid (risingV_any q0 c0 (X.vt[0]'(by have := HV2.out; omega)) ((X.jd.length : Int) - 1) wr (HF.out.v.2 0 _) i0)
      have HV1 := hid (risingV_any q1 c1 (X.vt[1]'(by have := HV2.out; omega)) ((X.jd.length : Int) - 1) wr (HF.out.v.2 1 _) i1)
      have HB0 : Hid (upV ((X.jd.length : Int) - 1) (-1) (X.vt[0]'(by have := HV2.out; omega)) = false → goodF X = false) := fun h => goodF_no (fun g => by have := g.v0 0 (by have := HV2.out; omega); rw [h] at this; cases this)
      have HB1 : Hid (upV ((X.jd.length : Int) - 1) (-1) (X.vt[1]'(by have := HV2.out; omega)) = false → goodF X = false) := fun h => goodF_no (fun g => by have := g.v0 1 (by have := HV2.out; omega); rw [h] at this; cases this)
      have HY : Hid (upV ((X.jd.length : Int) - 1) (-1) (X.vt[0]'(by have := HV2.out; omega)) = true → upV ((X.jd.length : Int) - 1) (-1) (X.vt[1]'(by have := HV2.out; omega)) = true → goodF X = true) := fun u0 u1 => gf_goodF ⟨HJ1.out.1, HJ1.out.2, HGL.out, fun k hk => by
          have hkg : k < X.gv.length := by have := HGL.out; omega
          rw [getD_in _ _ _ hk, getD_in _ _ _ hkg, gvB_prom (HJ.out k hk)]
          exact HGA.out k hk hkg, HP2.out, HV2.out, fun k hk => by
          have hkp : k < X.pl.length := by have := HP2.out; omega
          have hkv : k < X.vt.length := by have := HV2.out; omega
          rw [getD_in _ _ _ hkp, getD_in _ _ _ hkv, noOr_in, HPL.out k hkp, Bool.true_and]
          have : k = 0 ∨ k = 1 := by omega
          rcases this with rfl | rfl
          · exact u0
          · exact u1, HL30.out, HLA.out, HWN.out, HST.out, HSN.out⟩
      have HXV := hid (box_cell HKX.out 3)
      have x3 : wr.cell? ⟨w.heap.size, 3, none⟩ = some (.slice (some ⟨bv, ov, none⟩) X.vt.length A.kv) := by rw [← ev]; exact HXV.out
      have hv2 := HV2.out
      clear hcv i0 i1 ev HXV
      generalize upV ((X.jd.length : Int) - 1) (-1) (X.vt[0]'(by have := HV2.out; omega)) = r0 at *
      generalize upV ((X.jd.length : Int) - 1) (-1) (X.vt[1]'(by have := HV2.out; omega)) = r1 at *
      rw [hv2] at x3
      clear hv2
      go_wp2_with fail
      refine HV0.out.mono ?_
      rintro e w2 ⟨rfl, hw2⟩
      rw [hw2]
      clear hw2 HV0
      cases r0
      · have HE := hid (HB0.out rfl)
        clear HB0 HB1 HY
        go_wp2_with fail
        go_ret
        exact ⟨ret_b2 HE.out.symm, HBX.out⟩
      go_wp2_with fail
      refine HV1.out.mono ?_
      rintro e w2 ⟨rfl, hw2⟩
      rw [hw2]
      clear hw2 HV1
      cases r1
      · have HE := hid (HB1.out rfl)
        clear HB0 HB1 HY
        go_wp2_with fail
        go_ret
        exact ⟨ret_b2 HE.out.symm, HBX.out⟩
      have HE : Hid (goodF X = true) := by first | exact HY.out rfl rfl | exact HY.out trivial rfl | exact HY.out rfl trivial | exact HY.out trivial trivial
      clear HB0 HB1 HY
      go_wp2_with fail
      go_ret
      exact ⟨ret_b2 HE.out.symm, HBX.out⟩
end Go.Proofs.Ytikmkkklgdkpaaa
