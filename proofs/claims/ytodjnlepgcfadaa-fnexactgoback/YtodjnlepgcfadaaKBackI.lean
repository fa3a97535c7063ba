/- The program's GoBack. -/
import Derived.Test.YtodjnlepgcfadaaKCol
import Derived.Test.YtodjnlepgcfadaaKSet
import Derived.Deep.RegionHeld
namespace Go.Proofs.Ytodjnlepgcfadaa
set_option maxRecDepth 100000
open Go Go.ChangeShapes Go.WideShapes Go.ChangeAt Go.RowKit Go.Shelf
theorem rises_c {S : List Ly} (h : LysOk S) : ∀ d i (g : i + d + 1 < S.length), S[i].mark < S[i + d + 1].mark
  | 0, i, g => by
    have := (h (i + 1) g).1
    rw [aheadM_at S i (by omega)] at this
    exact this
  | d + 1, i, g => by
    have h1 := rises_c h d i (by omega)
    have h2 := (h (i + (d + 1) + 1) g).1
    rw [aheadM_at S (i + (d + 1)) (by omega)] at h2
    exact Int.lt_trans h1 h2
theorem rise_c {S : List Ly} (h : LysOk S) (i j : Nat) (hij : i < j) (g : j < S.length) : S[i].mark < S[j].mark := by
  obtain ⟨d, rfl⟩ : ∃ d, j = i + d + 1 := ⟨j - i - 1, by omega⟩
  exact rises_c h d i g
theorem up_c {S : List Ly} {x : Int} (h : GoodK S) (g : fndK S x < S.length) : up S x = fndK S x + 1 := by
  have hm : S[fndK S x].mark = x := by
    have := List.findIdx_getElem (w := g)
    simp at this; exact this
  generalize fndK S x = k at *
  by_cases h1 : up S x ≤ k
  · have hu : up S x < S.length := by omega
    have := up_at hu
    by_cases e : up S x = k
    · simp only [e] at this; omega
    · have := rise_c h.2.2 (up S x) k (by omega) g; omega
  · by_cases h2 : k + 1 < up S x
    · have hl := up_le S x
      have h3 := up_lt h2 (by omega)
      have := rise_c h.2.2 k (k + 1) (by omega) (by omega)
      omega
    · omega
/-- what GoBack makes -/
def backK (S : List Ly) (m : Int) : Option (List Ly) := if goodK S = true ∧ fndK S m < S.length then withK (S.take (fndK S m + 1)) (lastM S + 1) else none
theorem backK_no {S : List Ly} {m : Int} (h : ¬ (goodK S = true ∧ fndK S m < S.length)) : backK S m = none := if_neg h
theorem backK_yes {S : List Ly} {m : Int} (h1 : goodK S = true) (h2 : fndK S m < S.length) : backK S m = withK (S.take (fndK S m + 1)) (lastM S + 1) := if_pos ⟨h1, h2⟩
theorem SmallK.take {S : List Ly} (h : SmallK S) (n : Nat) : SmallK (S.take n) := by
  have hl : ∀ k, k < (S.take n).length → k < S.length := fun k hk => by simp at hk; omega
  have he : ∀ k (hk : k < (S.take n).length), (S.take n)[k] = S[k]'(hl k hk) := fun k hk => by simp
  refine ⟨Nat.le_trans (by simp; omega) h.n, fun k hk => ?_, fun k hk => ?_, fun k hk j hj => ?_⟩
  · rw [he k hk]; exact h.bl k _
  · rw [he k hk]; exact h.dt k _
  · have hj' : j < (S[k]'(hl k hk)).dt.length := by rw [← he k hk]; exact hj
    have := h.sz k (hl k hk) j hj'
    simp only [he k hk]
    exact this
theorem layersUpTo_c (a : Option Addr) (cap n : Nat) (x : Int) (w : World) :
    Calls Try.prog 20 #[.agg #[.slice a n cap], .int .i64 x] w fun e w' => ∃ Bm Bx, e = .returned (.func (.func 34) #[] #[.pointer (some ⟨Bm, 0, none⟩), .pointer (some ⟨Bx, 0, none⟩)]) ∧ w'.cell? ⟨Bm, 0, none⟩ = some (.slice a n cap) ∧ w'.cell? ⟨Bx, 0, none⟩ = some (.int .i64 x) ∧ Bm < w'.heap.size ∧ Bx < w'.heap.size ∧ Below w.heap.size w w' := by
  have g1 := boxB w (.cells #[.slice a n cap] 28)
  have hs1 : (w.alloc (.cells #[.slice a n cap] 28)).heap.size = w.heap.size + 1 := heap_size _ _
  have x0 : (w.alloc (.cells #[.slice a n cap] 28)).cell? ⟨w.heap.size, 0, none⟩ = some (.slice a n cap) := box_cell (heap_last _ _) 0
  have g2 := boxB (w.alloc (.cells #[.slice a n cap] 28)) (.cells #[.int .i64 x] 3)
  have hs2 : ((w.alloc (.cells #[.slice a n cap] 28)).alloc (.cells #[.int .i64 x] 3)).heap.size = w.heap.size + 1 + 1 := by rw [heap_size, heap_size]
  have x1 : ((w.alloc (.cells #[.slice a n cap] 28)).alloc (.cells #[.int .i64 x] 3)).cell? ⟨w.heap.size + 1, 0, none⟩ = some (.int .i64 x) := by
    have := box_cell (heap_last (w.alloc (.cells #[.slice a n cap] 28)) (.cells #[.int .i64 x] 3)) 0
    rw [hs1] at this
    exact this
  have H : Hid (((w.alloc (.cells #[.slice a n cap] 28)).alloc (.cells #[.int .i64 x] 3)).cell? ⟨w.heap.size, 0, none⟩ = some (.slice a n cap) ∧ ((w.alloc (.cells #[.slice a n cap] 28)).alloc (.cells #[.int .i64 x] 3)).cell? ⟨w.heap.size + 1, 0, none⟩ = some (.int .i64 x) ∧ w.heap.size < ((w.alloc (.cells #[.slice a n cap] 28)).alloc (.cells #[.int .i64 x] 3)).heap.size ∧ w.heap.size + 1 < ((w.alloc (.cells #[.slice a n cap] 28)).alloc (.cells #[.int .i64 x] 3)).heap.size ∧ Below w.heap.size w ((w.alloc (.cells #[.slice a n cap] 28)).alloc (.cells #[.int .i64 x] 3))) := ⟨(g2.cell (p := ⟨w.heap.size, 0, none⟩) (show w.heap.size < _ by rw [hs1]; omega)).trans x0, x1, by rw [hs2]; omega, by rw [hs2]; omega, g1.trans (g2.mono g1.size)⟩
  clear g1 g2 hs1 hs2 x0 x1
  go_enter Try.func20, Try.ntmps20
  go_wp2_with fail
  go_ret
  exact ⟨_, _, rfl, H.out⟩
set_option maxHeartbeats 1000000 in
theorem iback_no (a : Option Addr) (cap : Nat) (S : List Ly) (m : Int) (w : World) (hn : S.length ≤ 1048576) (hf : ∀ k (h : k < S.length), S[k].bl.length ≤ 1048576) (hG : Ys w.heap.size a S w) (hno : ¬ (goodK S = true ∧ fndK S m < S.length)) :
    Calls Try.prog 7 #[.agg #[.slice a S.length cap], .int .i64 m] w fun e w' => MOut (backK S m) w e w' := by
  rw [backK_no hno]
  have HB := hid (B2.start w (.slice a S.length cap))
  have HCG : Hid (∀ v, Below w.heap.size w v → Calls Try.prog 16 #[.agg #[.slice a S.length cap]] v fun e w' => e = .returned (.bool (goodK S)) ∧ Below v.heap.size v w') := fun v g => igoodK_any a cap S v hf ((hG.below g).mono g.size)
  have HFD : Hid (∀ v, Below w.heap.size w v → Calls Try.prog 17 #[.agg #[.slice a S.length cap], .int .i64 m] v fun e w' => e = .returned (.bool (decide (fndK S m < S.length))) ∧ Below v.heap.size v w') := fun v g => hasMark_any a cap S m v hn ((hG.below g).mono g.size)
  clear hG hf hn
  generalize hW : (w.alloc (.cells #[.slice a S.length cap] 28)).alloc (.cells #[.slice none 0 0] 28) = W at *
  obtain ⟨x0, -, -⟩ := HB.out.cells
  cases hg : goodK S
  · rw [hg] at HCG
    clear hg hno HFD
    go_enter Try.func7, Try.ntmps7
    go_wp2_with fail
    clear hW
    refine (HCG.out _ HB.out.below).mono ?_
    rintro e w2 ⟨rfl, b2⟩
    have HB2 := hid (HB.out.on b2)
    clear b2 x0 HCG
    obtain ⟨x0, z0, f0⟩ := HB2.out.cells
    have e0 : (w2.setCell ⟨w.heap.size + 1, 0, none⟩ (.slice none 0 0)).cell? ⟨w.heap.size + 1, 0, none⟩ = some (.slice none 0 0) := World.cell?_setCell_same _ _ _ z0
    have HB7 := hid (setB HB2.out.below (w.heap.size + 1) 0 (by omega) (.slice none 0 0))
    go_wp2_with fail
    generalize w2.setCell ⟨w.heap.size + 1, 0, none⟩ (.slice none 0 0) = XX at *
    refine bodyPost_ret (v := .tuple #[.agg #[.slice none 0 0], .bool false]) (by simp [results, Try.results7, go_sem, e0]) rfl ?_
    exact ⟨rfl, HB7.out⟩
  · have hd : decide (fndK S m < S.length) = false := decide_eq_false (fun h => hno ⟨hg, h⟩)
    rw [hd] at HFD
    rw [hg] at HCG
    clear hg hno hd
    go_enter Try.func7, Try.ntmps7
    go_wp2_with fail
    clear hW
    refine (HCG.out _ HB.out.below).mono ?_
    rintro e w1 ⟨rfl, b1⟩
    have HB1 := hid (HB.out.on b1)
    clear b1 x0 HCG
    obtain ⟨x0, -, -⟩ := HB1.out.cells
    go_wp2_with fail
    refine (HFD.out _ HB1.out.below).mono ?_
    rintro e w2 ⟨rfl, b2⟩
    have HB2 := hid (HB1.out.on b2)
    clear b2 x0 HFD
    obtain ⟨x0, z0, f0⟩ := HB2.out.cells
    have e0 : (w2.setCell ⟨w.heap.size + 1, 0, none⟩ (.slice none 0 0)).cell? ⟨w.heap.size + 1, 0, none⟩ = some (.slice none 0 0) := World.cell?_setCell_same _ _ _ z0
    have HB7 := hid (setB HB2.out.below (w.heap.size + 1) 0 (by omega) (.slice none 0 0))
    go_wp2_with fail
    generalize w2.setCell ⟨w.heap.size + 1, 0, none⟩ (.slice none 0 0) = XX at *
    refine bodyPost_ret (v := .tuple #[.agg #[.slice none 0 0], .bool false]) (by simp [results, Try.results7, go_sem, e0]) rfl ?_
    exact ⟨rfl, HB7.out⟩
set_option maxHeartbeats 3000000 in
theorem iback_yes (a : Option Addr) (cap : Nat) (S : List Ly) (m : Int) (w : World) (hf : ∀ k (h : k < S.length), S[k].bl.length ≤ 1048576) (hG : Ys w.heap.size a S w) (hg : goodK S = true) (hfd : fndK S m < S.length) :
    Calls Try.prog 7 #[.agg #[.slice a S.length cap], .int .i64 m] w fun e w' => MOut (backK S m) w e w' := by
  have hgk := goodK_iff.1 hg
  have hsm := good_small hgk
  rw [backK_yes hg hfd, ← up_c hgk hfd]
  have HB := hid (B2.start w (.slice a S.length cap))
  have HCG : Hid (∀ v, Below w.heap.size w v → Calls Try.prog 16 #[.agg #[.slice a S.length cap]] v fun e w' => e = .returned (.bool true) ∧ Below v.heap.size v w') := fun v g => by
    have := igoodK_any a cap S v hf ((hG.below g).mono g.size)
    rw [hg] at this
    exact this
  have HFD : Hid (∀ v, Below w.heap.size w v → Calls Try.prog 17 #[.agg #[.slice a S.length cap], .int .i64 m] v fun e w' => e = .returned (.bool true) ∧ Below v.heap.size v w') := fun v g => by
    have := hasMark_any a cap S m v (by have := hsm.n; omega) ((hG.below g).mono g.size)
    rw [decide_eq_true hfd] at this
    exact this
  have HLU : Hid (∀ v, Calls Try.prog 20 #[.agg #[.slice a S.length cap], .int .i64 m] v fun e w' => ∃ Bm Bx, e = .returned (.func (.func 34) #[] #[.pointer (some ⟨Bm, 0, none⟩), .pointer (some ⟨Bx, 0, none⟩)]) ∧ w'.cell? ⟨Bm, 0, none⟩ = some (.slice a S.length cap) ∧ w'.cell? ⟨Bx, 0, none⟩ = some (.int .i64 m) ∧ Bm < w'.heap.size ∧ Bx < w'.heap.size ∧ Below v.heap.size v w') := fun v => layersUpTo_c a cap S.length m v
  have HCO : Hid (∀ v Bm Bx, Below w.heap.size w v → Bm < v.heap.size → Bx < v.heap.size → v.cell? ⟨Bm, 0, none⟩ = some (.slice a S.length cap) → v.cell? ⟨Bx, 0, none⟩ = some (.int .i64 m) → Calls Try.prog 19 #[.func (.func 34) #[] #[.pointer (some ⟨Bm, 0, none⟩), .pointer (some ⟨Bx, 0, none⟩)]] v fun e w' => ∃ b c, e = .returned (.slice b (up S m) c) ∧ Ys w'.heap.size b (S.take (up S m)) w' ∧ Below v.heap.size v w') := fun v Bm Bx g h1 h2 h3 h4 => collectL_any Bm Bx a cap S m v hsm.n hgk.1 h1 h2 h3 h4 ((hG.below g).mono g.size)
  have HCL : Hid (∀ v, Below w.heap.size w v → Calls Try.prog 21 #[.agg #[.slice a S.length cap]] v fun e w' => e = .returned (.int .i64 (lastM S)) ∧ Below v.heap.size v w') := fun v g => lastMark_any a cap S v hgk.1 hsm.n ((hG.below g).mono g.size)
  have htl : (S.take (up S m)).length = up S m := by have := up_le S m; simp; omega
  have HCW : Hid (∀ v b c, Ys v.heap.size b (S.take (up S m)) v → Calls Try.prog 18 #[.slice b (up S m) c, .int .i64 (lastM S + 1)] v fun e w' => MOut (withK (S.take (up S m)) (lastM S + 1)) v e w') := fun v b c h => by
    have := withLayer_any b c (S.take (up S m)) (lastM S + 1) v (hsm.take _).n (fun k hk => by have := (hsm.take (up S m)).bl k hk; omega) (fun u gu => copyLayers_any b c (S.take (up S m)) u (hsm.take _) ((h.below gu).mono gu.size))
    rw [htl] at this
    exact this
  have hq : 0 ≤ lastM S ∧ lastM S ≤ 200 := by
    have h1 := hgk.2.2 (S.length - 1) (by have := hgk.1; omega)
    rw [lastM_at (by have := hgk.1; omega)]
    exact ⟨h1.2.1, h1.2.2.1⟩
  clear hgk hsm hg hfd hf hG htl
  generalize lastM S = qm at *
  have hwr : IntKind.i64.wrap (qm + 1) = qm + 1 := by rw [IntKind.wrap_i64]; omega
  clear hq
  generalize withK (S.take (up S m)) (qm + 1) = o at *
  generalize S.take (up S m) = T at *
  generalize up S m = u at *
  generalize hW : (w.alloc (.cells #[.slice a S.length cap] 28)).alloc (.cells #[.slice none 0 0] 28) = W at *
  generalize S.length = n at *
  obtain ⟨x0, -, -⟩ := HB.out.cells
  go_enter Try.func7, Try.ntmps7
  go_wp2_with fail
  clear hW
  refine (HCG.out _ HB.out.below).mono ?_
  rintro e w1 ⟨rfl, b1⟩
  have HB1 := hid (HB.out.on b1)
  clear b1 x0 HCG HB
  obtain ⟨x0, -, -⟩ := HB1.out.cells
  go_wp2_with fail
  refine (HFD.out _ HB1.out.below).mono ?_
  rintro e w2 ⟨rfl, b2⟩
  have HB2 := hid (HB1.out.on b2)
  clear b2 x0 HFD HB1
  have HB3 := hid (HB2.out.on (Below.refl _ _).drew)
  have k0 := HB3.out.x
  have HS : Hid (∀ v : World, v.heap[w.heap.size]? = some (.cells #[.slice a n cap] 28) → v.cell? ⟨w.heap.size, 0, none⟩ = some (.slice a n cap)) := fun v h => box_cell h 0
  have x3 := HS.out _ k0
  have x2 := HS.out _ HB2.out.x
  cases o with
  | none =>
    go_wp2_with fail
    go_region_held (fun v => v.cell? ⟨w.heap.size, 0, none⟩ = some (.slice a n cap)) (first | exact HS.out _ (by with_reducible assumption)) (first
      | (go_at_call 20; refine (HLU.out _).mono ?_; rintro e w4 ⟨Bm, Bx, rfl, cm, cx, lm, lx, b4⟩; have B4 := HB3.out.on b4; have k4 := B4.x)
      | (go_at_call 19; refine (HCO.out _ Bm Bx B4.below lm lx cm cx).mono ?_; rintro e w5 ⟨b5, c5, rfl, y5, g5⟩; have B5 := B4.on g5; have k5 := B5.x)
      | (go_at_call 21; refine (HCL.out _ B5.below).mono ?_; rintro e w6 ⟨rfl, g6⟩; have B6 := B5.on g6; have k6 := B6.x; have y6 := y5.up g6 g6.size)
      | (go_at_call 18; refine (HCW.out _ _ _ y6).mono ?_; rintro e w7 ⟨rfl, g7⟩; have B7 := B6.on g7; have k7 := B7.x; obtain ⟨x7, z7, f7⟩ := B7.cells; have e7 : (w7.setCell ⟨w.heap.size + 1, 0, none⟩ (.slice none 0 0)).cell? ⟨w.heap.size + 1, 0, none⟩ = some (.slice none 0 0) := World.cell?_setCell_same _ _ _ z7; have k8 : (w7.setCell ⟨w.heap.size + 1, 0, none⟩ (.slice none 0 0)).heap[w.heap.size]? = some (.cells #[.slice a n cap] 28) := (keepB _ _ _ _ _ (by omega)).trans k7))
    all_goals
      have HB7 := hid (setB B7.below (w.heap.size + 1) 0 (by omega) (.slice none 0 0))
      go_wp2_with fail
      generalize w7.setCell ⟨w.heap.size + 1, 0, none⟩ (.slice none 0 0) = XX at *
      refine bodyPost_ret (v := .tuple #[.agg #[.slice none 0 0], .bool false]) (by simp [results, Try.results7, go_sem, e7]) rfl ?_
      exact ⟨rfl, HB7.out⟩
  | some V =>
    go_wp2_with fail
    go_region_held (fun v => v.cell? ⟨w.heap.size, 0, none⟩ = some (.slice a n cap)) (first | exact HS.out _ (by with_reducible assumption)) (first
      | (go_at_call 20; refine (HLU.out _).mono ?_; rintro e w4 ⟨Bm, Bx, rfl, cm, cx, lm, lx, b4⟩; have B4 := HB3.out.on b4; have k4 := B4.x)
      | (go_at_call 19; refine (HCO.out _ Bm Bx B4.below lm lx cm cx).mono ?_; rintro e w5 ⟨b5, c5, rfl, y5, g5⟩; have B5 := B4.on g5; have k5 := B5.x)
      | (go_at_call 21; refine (HCL.out _ B5.below).mono ?_; rintro e w6 ⟨rfl, g6⟩; have B6 := B5.on g6; have k6 := B6.x; have y6 := y5.up g6 g6.size)
      | (go_at_call 18; refine (HCW.out _ _ _ y6).mono ?_; rintro e w7 ⟨b, c, rfl, o7, g7, hc7⟩; have B7 := B6.on g7; have k7 := B7.x; obtain ⟨x7, z7, f7⟩ := B7.cells; have s6 := B6.size; have HO8 := o7.set (w.heap.size + 1) 0 (.slice b V.length c) (Or.inl (by omega)); have e7 : (w7.setCell ⟨w.heap.size + 1, 0, none⟩ (.slice b V.length c)).cell? ⟨w.heap.size + 1, 0, none⟩ = some (.slice b V.length c) := World.cell?_setCell_same _ _ _ z7; have k8 : (w7.setCell ⟨w.heap.size + 1, 0, none⟩ (.slice b V.length c)).heap[w.heap.size]? = some (.cells #[.slice a n cap] 28) := (keepB _ _ _ _ _ (by omega)).trans k7))
    all_goals
      have HB7 := hid (setB B7.below (w.heap.size + 1) 0 (by omega) (.slice b V.length c))
      have HZ7 : Hid ((w7.setCell ⟨w.heap.size + 1, 0, none⟩ (.slice b V.length c)).heap.size = w7.heap.size) := by show (w7.setCell ⟨w.heap.size + 1, 0, none⟩ (.slice b V.length c)).heap.size = w7.heap.size; simp [World.setCell]
      have HO9 := hid HO8
      have HC7 := hid hc7
      clear HO8 hc7
      go_wp2_with fail
      generalize w7.setCell ⟨w.heap.size + 1, 0, none⟩ (.slice b V.length c) = XX at *
      refine bodyPost_ret (v := .tuple #[.agg #[.slice b V.length c], .bool true]) (by simp [results, Try.results7, go_sem, e7]) rfl ?_
      exact ⟨b, c, rfl, (HO9.out.low (by omega)).high (by rw [HZ7.out]; exact Nat.le_refl _) (Nat.le_refl _), HB7.out, HC7.out⟩
theorem iback_any (a : Option Addr) (cap : Nat) (S : List Ly) (m : Int) (w : World) (hn : S.length ≤ 1048576) (hf : ∀ k (h : k < S.length), S[k].bl.length ≤ 1048576) (hG : Ys w.heap.size a S w) :
    Calls Try.prog 7 #[.agg #[.slice a S.length cap], .int .i64 m] w fun e w' => MOut (backK S m) w e w' := by
  by_cases h : goodK S = true ∧ fndK S m < S.length
  · exact iback_yes a cap S m w hf hG h.1 h.2
  · exact iback_no a cap S m w hn hf hG h
end Go.Proofs.Ytodjnlepgcfadaa
