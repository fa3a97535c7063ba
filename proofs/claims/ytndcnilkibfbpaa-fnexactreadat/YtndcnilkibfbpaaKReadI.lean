/- Walks of the program's dataOf, layersUpTo. -/
import Derived.Test.YtndcnilkibfbpaaKOver
import Derived.Test.YtndcnilkibfbpaaKReadS
import Derived.Test.YtndcnilkibfbpaaKTxt
namespace Go.Proofs.Ytndcnilkibfbpaa
set_option maxRecDepth 100000
open Go Go.ChangeShapes Go.WideShapes Go.ChangeAt Go.RowKit Go.Shelf
theorem keptE_inv0 {H : Type} {v : Value} {z : DataW H × List MemPlace} (h : keptE (H := H) v = some z) : ∃ s : ByteArray, v = .agg #[.string s] := by
  cases v
  case agg cells =>
    obtain ⟨l⟩ := cells
    cases l with
    | nil => exact absurd (show (none : Option (DataW H × List MemPlace)) = some z from h) (by simp)
    | cons a l =>
      cases l with
      | nil =>
        cases a
        case string s => exact ⟨s, rfl⟩
        all_goals exact absurd (show (none : Option (DataW H × List MemPlace)) = some z from h) (by simp)
      | cons b l => exact absurd (show (none : Option (DataW H × List MemPlace)) = some z from h) (by simp)
  all_goals exact absurd (show (none : Option (DataW H × List MemPlace)) = some z from h) (by simp)
theorem keptE_inv {H : Type} {v : Value} {l : List UInt8} {ps : List MemPlace} (h : keptE (H := H) v = some (.lit (.string l), ps)) : ∃ s : ByteArray, v = .agg #[.string s] ∧ s.data.toList = l := by
  obtain ⟨s, rfl⟩ := keptE_inv0 h
  rw [keptE_mk] at h
  cases h
  exact ⟨s, rfl, rfl⟩
theorem dataOf_any {H : Type} (M N : Nat) (D : DataW H) (T : Int → ByteArray) (x : Int) (w : World) (hx : 0 ≤ x ∧ x ≤ 15) (hown : w.ownsMap Try.prog 3 keptE M N D) (hT : Tells7 D T) :
    Calls Try.prog 52 #[.map (some M), .int .i64 x] w fun e w' => e = .returned (.string (T x)) ∧ Below w.heap.size w w' := by
  have hwf : (Lit.int .i64 x).wf = true := by have h63 : IntKind.i64.min = -9223372036854775808 := rfl; have h64 : IntKind.i64.max = 9223372036854775807 := rfl; simp only [Lit.wf, h63, h64, Bool.and_eq_true, decide_eq_true_eq]; omega
  obtain ⟨v, ps, hrun, hv⟩ := hown.look_ok (Maps.int_keyed Try.underlying3) Try.underlying63 (Try.zeroValue69 w) (keptE_mk _) (Maps.keyOf_int_mk Try.underlying3 hwf)
  rcases hT.2 x with ⟨h1, h2⟩ | ⟨h1, h2⟩
  · rw [h1] at hrun
    rw [h2] at hv
    obtain ⟨s, rfl, hs⟩ := keptE_inv hv
    have hst : T x = s := by
      have : (T x).data = s.data := Array.toList_inj.1 hs.symm
      cases hq : T x; cases s; simp_all
    rw [hst]
    have HB := hid (boxB w (.cells #[.string s] 69))
    have y0 : (w.alloc (.cells #[.string s] 69)).cell? ⟨w.heap.size, 0, none⟩ = some (.string s) := box_cell (heap_last _ _) 0
    clear hv hs hst h1 h2 hwf hown hT hx
    go_enter Try.func52, Try.ntmps52
    go_wp2_with fail
    go_ret
    exact ⟨rfl, HB.out⟩
  · rw [h1] at hrun
    obtain ⟨s, rfl⟩ := keptE_inv0 hv
    rw [h2]
    have HB := hid (boxB w (.cells #[.string s] 69))
    clear hv h1 h2 hwf hown hT hx
    go_enter Try.func52, Try.ntmps52
    go_wp2_with fail
    go_ret
    exact ⟨rfl, HB.out⟩
theorem layersUpTo_any (a : Option Addr) (cap n : Nat) (x : Int) (w : World) :
    Calls Try.prog 53 #[.agg #[.slice a n cap], .int .i64 x] w fun e w' => e = .returned (.func (.func 65) #[] #[.pointer (some ⟨w.heap.size, 0, none⟩), .pointer (some ⟨w.heap.size + 1, 0, none⟩)]) ∧ w' = (w.alloc (.cells #[.slice a n cap] 24)).alloc (.cells #[.int .i64 x] 3) := by
  go_enter Try.func53, Try.ntmps53
  go_wp2_with fail
  go_ret
  exact ⟨rfl, rfl⟩
theorem rises {S : List Ly} (h : LysOk S) : ∀ d i (g : i + d + 1 < S.length), S[i].mark < S[i + d + 1].mark
  | 0, i, g => by
    have := (h (i + 1) g).1
    rw [aheadM_at S i (by omega)] at this
    exact this
  | d + 1, i, g => by
    have h1 := rises h d i (by omega)
    have h2 := (h (i + (d + 1) + 1) g).1
    rw [aheadM_at S (i + (d + 1)) (by omega)] at h2
    exact Int.lt_trans h1 h2
theorem rise_lt {S : List Ly} (h : LysOk S) (i j : Nat) (hij : i < j) (g : j < S.length) : S[i].mark < S[j].mark := by
  obtain ⟨d, rfl⟩ : ∃ d, j = i + d + 1 := ⟨j - i - 1, by omega⟩
  exact rises h d i g
theorem up_fnd {S : List Ly} {x : Int} (h : GoodK S) (g : fndK S x < S.length) : up S x = fndK S x + 1 := by
  have hm : S[fndK S x].mark = x := by
    have := List.findIdx_getElem (w := g)
    simp at this; exact this
  generalize fndK S x = k at *
  by_cases h1 : up S x ≤ k
  · have hu : up S x < S.length := by omega
    have := up_at hu
    by_cases e : up S x = k
    · simp only [e] at this; omega
    · have := rise_lt h.2.2 (up S x) k (by omega) g; omega
  · by_cases h2 : k + 1 < up S x
    · have hl := up_le S x
      have h3 := up_lt h2 (by omega)
      have := rise_lt h.2.2 k (k + 1) (by omega) (by omega)
      omega
    · omega
theorem atB_size {bl : List Int} {dt : List ByteArray} (x : Int) {s : ByteArray} (hs : s.size = 2) (hd : ∀ j (h : j < dt.length), dt[j].size = 2) : ∀ j, j ≤ dt.length → (atB bl dt x s j).size = 2
  | 0, _ => hs
  | j + 1, h => by
    show (if bl.getD j 0 = x then dt.getD j ⟨#[]⟩ else atB bl dt x s j).size = 2
    by_cases e : bl.getD j 0 = x
    · rw [if_pos e, List.getD_eq_getElem?_getD, List.getElem?_eq_getElem (by omega)]; exact hd j (by omega)
    · rw [if_neg e]; exact atB_size x hs hd j (by omega)
theorem atL_size {S : List Ly} (x : Int) (h : GoodK S) : ∀ k, k ≤ S.length → (atL S x k).size = 2
  | 0, _ => rfl
  | k + 1, g => by
    rw [atL_at S x k g]
    have hl := (h.2.2 k g).2.2.2
    exact atB_size x (atL_size x h k (by omega)) hl.2.2 _ (by rw [hl.2.1]; exact Nat.le_refl _)
theorem over_any (Bm Bx : Nat) (a : Option Addr) (cap : Nat) (S : List Ly) (x : Int) (w : World) (hg : GoodK S) (hf : ∀ k (h : k < S.length), S[k].bl.length ≤ 1048576) (hBm : Bm < w.heap.size) (hBx : Bx < w.heap.size)
    (hcm : w.cell? ⟨Bm, 0, none⟩ = some (.slice a S.length cap)) (hcx : w.cell? ⟨Bx, 0, none⟩ = some (.int .i64 x)) (hG : Ys w.heap.size a S w) :
    Calls Try.prog 43 #[.func (.func 65) #[] #[.pointer (some ⟨Bm, 0, none⟩), .pointer (some ⟨Bx, 0, none⟩)]] w fun e w' => e = .returned (.map (some w.heap.size)) ∧ (∃ (D : DataW Unit) (N : Nat), w'.ownsMap Try.prog 3 keptE w.heap.size N D ∧ Tells7 D (fun y => atL S y (up S x))) ∧ Below w.heap.size w w' := by
  obtain ⟨b, off, A, rfl, hA⟩ := hG.pick (by have := hg.1; omega)
  have h8 := hg.2.1
  exact (callsIn_wide (n := 6)).1 (blocksOver_in Fence.wide 6 trivial rfl (by omega) 65 _ trivial (enters_of Try.func65 (by kernel_rfl) rfl) S A b off (up S x) w (by omega) (up_le S x) _
    (fun W0 h0 => upTo_stops Fence.wide 5 trivial rfl (by omega) Bm Bx w.heap.size b off cap S x A W0 (by omega) hBm hBx h0.size ((h0.cell (p := ⟨Bm, 0, none⟩) hBm).trans hcm) ((h0.cell (p := ⟨Bx, 0, none⟩) hBx).trans hcx) (hA.below h0)) hA
    (fun k hk => ⟨hf k hk, (hg.2.2 k hk).2.2.2.2.1, fun j hj => ((hg.2.2 k hk).2.2.2.1 j hj).2⟩))
set_option maxHeartbeats 6000000 in
theorem iread_any (a : Option Addr) (cap : Nat) (S : List Ly) (m x : Int) (w : World) (hn : S.length ≤ 1048576) (hf : ∀ k (h : k < S.length), S[k].bl.length ≤ 1048576) (hG : Ys w.heap.size a S w) :
    Calls Try.prog 23 #[.agg #[.slice a S.length cap], .int .i64 m, .int .i64 x] w fun e w' => e = .returned (.tuple #[.string (rdT S m x), .bool (rdB S m x)]) ∧ Below w.heap.size w w' := by
  have HB := hid (Bx.start w (.cells #[.slice a S.length cap] 24))
  have HG := hid ((hG.below HB.out.below).mono HB.out.below.size)
  have HBW := hid HB.out.below
  generalize hW : w.alloc (.cells #[.slice a S.length cap] 24) = W at *
  have HX : Hid (∀ v, Below W.heap.size W v → v.cell? ⟨w.heap.size, 0, none⟩ = some (.slice a S.length cap)) := fun v g => box_cell ((g.block _ HB.out.lt).trans HB.out.box) 0
  have HU : Hid (∀ v, Below W.heap.size W v → Below w.heap.size w v) := fun v g => HBW.out.trans (g.mono HBW.out.size)
  have HGD : Hid (∀ v, Below W.heap.size W v → Calls Try.prog 17 #[.agg #[.slice a S.length cap]] v fun e w' => e = .returned (.bool (goodK S)) ∧ Below v.heap.size v w') := fun v g => igoodK_any a cap S v hf ((HG.out.below g).mono g.size)
  have HBK := hid (fun u => isBlock_any x u)
  have HFD : Hid (∀ v, Below W.heap.size W v → Calls Try.prog 50 #[.agg #[.slice a S.length cap], .int .i64 m] v fun e w' => e = .returned (.bool (decide (fndK S m < S.length))) ∧ Below v.heap.size v w') := fun v g => hasMark_any a cap S m v hn ((HG.out.below g).mono g.size)
  have HOV : Hid (GoodK S → ∀ v, Below W.heap.size W v → Calls Try.prog 43 #[.func (.func 65) #[] #[.pointer (some ⟨v.heap.size, 0, none⟩), .pointer (some ⟨v.heap.size + 1, 0, none⟩)]] ((v.alloc (.cells #[.slice a S.length cap] 24)).alloc (.cells #[.int .i64 m] 3)) fun e w' => ∃ (M N : Nat) (D : DataW Unit), e = .returned (.map (some M)) ∧ w'.ownsMap Try.prog 3 keptE M N D ∧ Tells7 D (fun y => atL S y (up S m)) ∧ Below v.heap.size v w') := fun h1 v g => by
    have g1 : Below v.heap.size v (v.alloc (.cells #[.slice a S.length cap] 24)) := boxB _ _
    have hs1 : (v.alloc (.cells #[.slice a S.length cap] 24)).heap.size = v.heap.size + 1 := heap_size _ _
    have x0 : (v.alloc (.cells #[.slice a S.length cap] 24)).cell? ⟨v.heap.size, 0, none⟩ = some (.slice a S.length cap) := box_cell (heap_last _ _) 0
    generalize v.alloc (.cells #[.slice a S.length cap] 24) = V1 at *
    have g2 : Below V1.heap.size V1 (V1.alloc (.cells #[.int .i64 m] 3)) := boxB _ _
    have hs2 : (V1.alloc (.cells #[.int .i64 m] 3)).heap.size = V1.heap.size + 1 := heap_size _ _
    have x1 : (V1.alloc (.cells #[.int .i64 m] 3)).cell? ⟨V1.heap.size, 0, none⟩ = some (.int .i64 m) := box_cell (heap_last _ _) 0
    generalize V1.alloc (.cells #[.int .i64 m] 3) = V2 at *
    have g3 : Below v.heap.size v V2 := g1.trans (g2.mono g1.size)
    rw [hs1] at x1
    refine (over_any v.heap.size (v.heap.size + 1) a cap S m V2 h1 hf (by omega) (by omega) ((g2.cell (p := ⟨v.heap.size, 0, none⟩) (by show v.heap.size < V1.heap.size; omega)).trans x0) x1 ((HG.out.below (g.trans (g3.mono g.size))).mono (Nat.le_trans g.size g3.size))).mono ?_
    rintro e w' ⟨rfl, ⟨D, N, h2, h3⟩, h4⟩
    exact ⟨_, N, D, rfl, h2, h3, g3.trans (h4.mono g3.size)⟩
  have B0 : Hid (Below W.heap.size W W) := Below.refl _ _
  have x0 := HX.out _ B0.out
  clear hG hf hn HB HG HBW
  go_enter Try.func23, Try.ntmps23
  go_wp2_with fail
  clear hW
  refine (HGD.out _ B0.out).mono ?_
  rintro e w1 ⟨rfl, g1⟩
  have B1 : Hid (Below W.heap.size W w1) := g1
  have x1 := HX.out _ B1.out
  clear g1 x0 HGD
  by_cases hg : GoodK S
  case neg =>
    have hg' := goodK_no hg
    have HNO : Hid (¬ RdOk S m x) := fun h => hg h.1
    rw [hg']
    clear hg hg' HOV HFD HBK
    go_wp2_with fail
    go_ret2
    exact ⟨rd_no HNO.out, HU.out _ B1.out⟩
  rw [goodK_iff.2 hg]
  have HGK := hid hg
  clear hg
  go_wp2_with fail
  refine (HFD.out _ B1.out).mono ?_
  rintro e w3 ⟨rfl, g3⟩
  have B3 : Hid (Below W.heap.size W w3) := B1.out.trans (g3.mono B1.out.size)
  have x3 := HX.out _ B3.out
  clear g3 x1 HFD
  by_cases hfd : fndK S m < S.length
  case neg =>
    have HNO : Hid (¬ RdOk S m x) := fun h => hfd h.2.2
    rw [decide_eq_false hfd]
    clear hfd HOV HBK
    go_wp2_with fail
    go_ret2
    exact ⟨rd_no HNO.out, HU.out _ B3.out⟩
  rw [decide_eq_true hfd]
  have HFK := hid hfd
  clear hfd
  go_wp2_with fail
  refine (HBK.out _).mono ?_
  rintro e w2 ⟨rfl, hw2⟩
  rw [hw2]
  clear hw2 HBK
  by_cases hx : 0 ≤ x ∧ x ≤ 15
  case neg =>
    have HNO : Hid (¬ RdOk S m x) := fun h => hx h.2.1
    rw [decide_eq_false hx]
    clear hx HOV
    go_wp2_with fail
    go_ret2
    exact ⟨rd_no HNO.out, HU.out _ B3.out⟩
  rw [decide_eq_true hx]
  have HYS := hid (rd_yes (S := S) (m := m) (x := x) ⟨HGK.out, hx, HFK.out⟩)
  rw [← up_fnd HGK.out HFK.out] at HYS
  have HSZ := hid (atL_size x HGK.out (up S m) (up_le S m))
  have HO := hid (HOV.out HGK.out _ B3.out)
  have HLU := hid (layersUpTo_any a cap S.length m w3)
  have HXK := hid hx
  clear hx HOV HGK HFK
  go_wp2_with fail
  refine HLU.out.mono ?_
  rintro e w4 ⟨rfl, hw4⟩
  rw [hw4]
  clear hw4 HLU
  go_wp2_with fail
  refine HO.out.mono ?_
  rintro e w5 ⟨M, N, D, rfl, o1, o2, g5⟩
  have B5 : Hid (Below W.heap.size W w5) := B3.out.trans (g5.mono B3.out.size)
  have HD := hid (dataOf_any M N D _ x w5 HXK.out o1 o2)
  clear o1 o2 g5 HO
  go_wp2_with fail
  refine HD.out.mono ?_
  rintro e w6 ⟨rfl, g6⟩
  have B6 : Hid (Below W.heap.size W w6) := B5.out.trans (g6.mono B5.out.size)
  clear g6 HD
  have HJ : Hid (Calls Try.prog 51 #[.string (atL S x (up S m)), .string ⟨#[]⟩] w6 fun e w' => e = .returned (.string (atL S x (up S m))) ∧ Below w6.heap.size w6 w') := by
    have := join_any (atL S x (up S m)) ⟨#[]⟩ w6 (by have := HSZ.out; omega) (by decide)
    rw [app_nil] at this
    exact this
  generalize atL S x (up S m) = T at *
  go_wp2_with fail
  refine HJ.out.mono ?_
  rintro e w7 ⟨rfl, g7⟩
  have B7 : Hid (Below W.heap.size W w7) := B6.out.trans (g7.mono B6.out.size)
  clear g7 HJ
  go_wp2_with fail
  go_ret2
  exact ⟨HYS.out, HU.out _ B7.out⟩
end Go.Proofs.Ytndcnilkibfbpaa
