/- The program's allAt: all blocks at a mark. -/
import Derived.Test.YtlifhakgboekfabSyP
namespace Go.Proofs.Ytlifhakgboekfab
set_option maxRecDepth 100000
open Go Go.ChangeShapes Go.WideShapes Go.ChangeAt Go.RowKit
set_option maxHeartbeats 8000000 in
theorem allAt_any (a : Option Addr) (cap : Nat) (S : List Ly) (m : Int) (w : World) (hg : GoodK S) (hf : ∀ k (h : k < S.length), S[k].bl.length ≤ 1048576) (hm : fndK S m < S.length) (hG : Ys w.heap.size a S w) :
    Calls Try.prog 50 #[.agg #[.slice a S.length cap], .int .i64 m] w fun e w' => e = .returned (.agg (arrS (atM S m) 16)) ∧ Below w.heap.size w w' := by
  have HB0 : Hid (Below w.heap.size w (((w.alloc (.cells #[.slice a S.length cap] 48)).alloc (.cells #[.string ⟨#[]⟩, .string ⟨#[]⟩, .string ⟨#[]⟩, .string ⟨#[]⟩, .string ⟨#[]⟩, .string ⟨#[]⟩, .string ⟨#[]⟩, .string ⟨#[]⟩, .string ⟨#[]⟩, .string ⟨#[]⟩, .string ⟨#[]⟩, .string ⟨#[]⟩, .string ⟨#[]⟩, .string ⟨#[]⟩, .string ⟨#[]⟩, .string ⟨#[]⟩] 72)).alloc (.cells #[.string ⟨#[]⟩, .string ⟨#[]⟩, .string ⟨#[]⟩, .string ⟨#[]⟩, .string ⟨#[]⟩, .string ⟨#[]⟩, .string ⟨#[]⟩, .string ⟨#[]⟩, .string ⟨#[]⟩, .string ⟨#[]⟩, .string ⟨#[]⟩, .string ⟨#[]⟩, .string ⟨#[]⟩, .string ⟨#[]⟩, .string ⟨#[]⟩, .string ⟨#[]⟩] 72))) := ((boxB _ _).trans ((boxB _ _).mono (boxB _ _).size)).trans ((boxB _ _).mono ((boxB _ _).trans ((boxB _ _).mono (boxB _ _).size)).size)
  have HX0 : Hid ((((w.alloc (.cells #[.slice a S.length cap] 48)).alloc (.cells #[.string ⟨#[]⟩, .string ⟨#[]⟩, .string ⟨#[]⟩, .string ⟨#[]⟩, .string ⟨#[]⟩, .string ⟨#[]⟩, .string ⟨#[]⟩, .string ⟨#[]⟩, .string ⟨#[]⟩, .string ⟨#[]⟩, .string ⟨#[]⟩, .string ⟨#[]⟩, .string ⟨#[]⟩, .string ⟨#[]⟩, .string ⟨#[]⟩, .string ⟨#[]⟩] 72)).alloc (.cells #[.string ⟨#[]⟩, .string ⟨#[]⟩, .string ⟨#[]⟩, .string ⟨#[]⟩, .string ⟨#[]⟩, .string ⟨#[]⟩, .string ⟨#[]⟩, .string ⟨#[]⟩, .string ⟨#[]⟩, .string ⟨#[]⟩, .string ⟨#[]⟩, .string ⟨#[]⟩, .string ⟨#[]⟩, .string ⟨#[]⟩, .string ⟨#[]⟩, .string ⟨#[]⟩] 72)).heap[w.heap.size]? = some (.cells #[.slice a S.length cap] 48)) := (alloc3 _ _ _ _).1.1
  have HX1 : Hid ((((w.alloc (.cells #[.slice a S.length cap] 48)).alloc (.cells #[.string ⟨#[]⟩, .string ⟨#[]⟩, .string ⟨#[]⟩, .string ⟨#[]⟩, .string ⟨#[]⟩, .string ⟨#[]⟩, .string ⟨#[]⟩, .string ⟨#[]⟩, .string ⟨#[]⟩, .string ⟨#[]⟩, .string ⟨#[]⟩, .string ⟨#[]⟩, .string ⟨#[]⟩, .string ⟨#[]⟩, .string ⟨#[]⟩, .string ⟨#[]⟩] 72)).alloc (.cells #[.string ⟨#[]⟩, .string ⟨#[]⟩, .string ⟨#[]⟩, .string ⟨#[]⟩, .string ⟨#[]⟩, .string ⟨#[]⟩, .string ⟨#[]⟩, .string ⟨#[]⟩, .string ⟨#[]⟩, .string ⟨#[]⟩, .string ⟨#[]⟩, .string ⟨#[]⟩, .string ⟨#[]⟩, .string ⟨#[]⟩, .string ⟨#[]⟩, .string ⟨#[]⟩] 72)).heap[w.heap.size + 1]? = some (.cells #[.string ⟨#[]⟩, .string ⟨#[]⟩, .string ⟨#[]⟩, .string ⟨#[]⟩, .string ⟨#[]⟩, .string ⟨#[]⟩, .string ⟨#[]⟩, .string ⟨#[]⟩, .string ⟨#[]⟩, .string ⟨#[]⟩, .string ⟨#[]⟩, .string ⟨#[]⟩, .string ⟨#[]⟩, .string ⟨#[]⟩, .string ⟨#[]⟩, .string ⟨#[]⟩] 72)) := (alloc3 _ _ _ _).1.2.1
  have HX2 : Hid ((((w.alloc (.cells #[.slice a S.length cap] 48)).alloc (.cells #[.string ⟨#[]⟩, .string ⟨#[]⟩, .string ⟨#[]⟩, .string ⟨#[]⟩, .string ⟨#[]⟩, .string ⟨#[]⟩, .string ⟨#[]⟩, .string ⟨#[]⟩, .string ⟨#[]⟩, .string ⟨#[]⟩, .string ⟨#[]⟩, .string ⟨#[]⟩, .string ⟨#[]⟩, .string ⟨#[]⟩, .string ⟨#[]⟩, .string ⟨#[]⟩] 72)).alloc (.cells #[.string ⟨#[]⟩, .string ⟨#[]⟩, .string ⟨#[]⟩, .string ⟨#[]⟩, .string ⟨#[]⟩, .string ⟨#[]⟩, .string ⟨#[]⟩, .string ⟨#[]⟩, .string ⟨#[]⟩, .string ⟨#[]⟩, .string ⟨#[]⟩, .string ⟨#[]⟩, .string ⟨#[]⟩, .string ⟨#[]⟩, .string ⟨#[]⟩, .string ⟨#[]⟩] 72)).heap[w.heap.size + 1 + 1]? = some (.cells (arrS (atM S m) 0) 72)) := by show _ = _; rw [arrS_zero]; exact (alloc3 _ _ _ _).1.2.2
  have HSZ : Hid ((((w.alloc (.cells #[.slice a S.length cap] 48)).alloc (.cells #[.string ⟨#[]⟩, .string ⟨#[]⟩, .string ⟨#[]⟩, .string ⟨#[]⟩, .string ⟨#[]⟩, .string ⟨#[]⟩, .string ⟨#[]⟩, .string ⟨#[]⟩, .string ⟨#[]⟩, .string ⟨#[]⟩, .string ⟨#[]⟩, .string ⟨#[]⟩, .string ⟨#[]⟩, .string ⟨#[]⟩, .string ⟨#[]⟩, .string ⟨#[]⟩] 72)).alloc (.cells #[.string ⟨#[]⟩, .string ⟨#[]⟩, .string ⟨#[]⟩, .string ⟨#[]⟩, .string ⟨#[]⟩, .string ⟨#[]⟩, .string ⟨#[]⟩, .string ⟨#[]⟩, .string ⟨#[]⟩, .string ⟨#[]⟩, .string ⟨#[]⟩, .string ⟨#[]⟩, .string ⟨#[]⟩, .string ⟨#[]⟩, .string ⟨#[]⟩, .string ⟨#[]⟩] 72)).heap.size = w.heap.size + 1 + 1 + 1) := (alloc3 _ _ _ _).2
  generalize hW : ((w.alloc (.cells #[.slice a S.length cap] 48)).alloc (.cells #[.string ⟨#[]⟩, .string ⟨#[]⟩, .string ⟨#[]⟩, .string ⟨#[]⟩, .string ⟨#[]⟩, .string ⟨#[]⟩, .string ⟨#[]⟩, .string ⟨#[]⟩, .string ⟨#[]⟩, .string ⟨#[]⟩, .string ⟨#[]⟩, .string ⟨#[]⟩, .string ⟨#[]⟩, .string ⟨#[]⟩, .string ⟨#[]⟩, .string ⟨#[]⟩] 72)).alloc (.cells #[.string ⟨#[]⟩, .string ⟨#[]⟩, .string ⟨#[]⟩, .string ⟨#[]⟩, .string ⟨#[]⟩, .string ⟨#[]⟩, .string ⟨#[]⟩, .string ⟨#[]⟩, .string ⟨#[]⟩, .string ⟨#[]⟩, .string ⟨#[]⟩, .string ⟨#[]⟩, .string ⟨#[]⟩, .string ⟨#[]⟩, .string ⟨#[]⟩, .string ⟨#[]⟩] 72) = W at *
  have HG : Hid (∀ v, Below w.heap.size w v → Ys v.heap.size a S v) := fun v g => (hG.below g).mono g.size
  have HOV : Hid (∀ v, Below w.heap.size w v → Calls Try.prog 52 #[.func (.func 59) #[] #[.pointer (some ⟨v.heap.size, 0, none⟩), .pointer (some ⟨v.heap.size + 1, 0, none⟩)]] ((v.alloc (.cells #[.slice a S.length cap] 29)).alloc (.cells #[.int .i64 m] 3)) fun e w' => ∃ (M N : Nat) (D : DataW Unit), e = .returned (.map (some M)) ∧ v.heap.size ≤ M ∧ w'.ownsMap Try.prog 3 keptE M N D ∧ Tells7 D (fun y => atL S y (fndK S m + 1)) ∧ Below v.heap.size v w') := fun v g => by
    have g1 : Below v.heap.size v (v.alloc (.cells #[.slice a S.length cap] 29)) := boxB _ _
    have hs1 : (v.alloc (.cells #[.slice a S.length cap] 29)).heap.size = v.heap.size + 1 := heap_size _ _
    have x0 : (v.alloc (.cells #[.slice a S.length cap] 29)).cell? ⟨v.heap.size, 0, none⟩ = some (.slice a S.length cap) := box_cell (heap_last _ _) 0
    generalize v.alloc (.cells #[.slice a S.length cap] 29) = V1 at *
    have g2 : Below V1.heap.size V1 (V1.alloc (.cells #[.int .i64 m] 3)) := boxB _ _
    have hs2 : (V1.alloc (.cells #[.int .i64 m] 3)).heap.size = V1.heap.size + 1 := heap_size _ _
    have x1 : (V1.alloc (.cells #[.int .i64 m] 3)).cell? ⟨V1.heap.size, 0, none⟩ = some (.int .i64 m) := box_cell (heap_last _ _) 0
    generalize V1.alloc (.cells #[.int .i64 m] 3) = V2 at *
    have g3 : Below v.heap.size v V2 := g1.trans (g2.mono g1.size)
    rw [hs1] at x1
    refine (over_any v.heap.size (v.heap.size + 1) a cap S m V2 hg hf (by omega) (by omega) ((g2.cell (p := ⟨v.heap.size, 0, none⟩) (by show v.heap.size < V1.heap.size; omega)).trans x0) x1 (HG.out V2 (g.trans (g3.mono g.size)))).mono ?_
    rintro e w' ⟨rfl, ⟨D, N, h2, h3⟩, h4⟩
    rw [up_fnd hg hm] at h3
    exact ⟨_, N, D, rfl, g3.size, h2, h3, g3.trans (h4.mono g3.size)⟩
  have HLU := hid (fun v => layersUpTo_any a cap S.length m v)
  obtain ⟨T, hT⟩ : ∃ T, T = atM S m := ⟨_, rfl⟩
  have HTT : Hid (∀ k : Nat, atL S (k : Int) (fndK S m + 1) = T k) := fun k => by rw [hT]; rfl
  rw [← hT] at HX2 ⊢
  clear hG hg hf hT hm HG
  have x0 := box_cell HX0.out 0
  have HOW := hid (HOV.out W HB0.out)
  clear HOV
  generalize hfn : (fun y => atL S y (fndK S m + 1)) = U at *
  have HTU : Hid (∀ k : Nat, U (k : Int) = T k) := fun k => by rw [← hfn]; exact HTT.out k
  clear hfn HTT
  go_enter Try.func50, Try.ntmps50
  go_wp2_with fail
  clear hW
  refine (HLU.out _).mono ?_
  rintro e w4 ⟨rfl, hw4⟩
  rw [hw4]
  clear hw4 HLU x0
  go_wp2_with fail
  refine HOW.out.mono ?_
  rintro e w5 ⟨M, N, D, rfl, hM, o1, o2, g5⟩
  have hsz := HSZ.out
  have HB5 := hid (HB0.out.trans (g5.mono HB0.out.size))
  have HK1 : Hid (w5.heap[w.heap.size + 1]? = _) := (g5.block _ (by omega)).trans HX1.out
  have HK2 : Hid (w5.heap[w.heap.size + 1 + 1]? = _) := (g5.block _ (by omega)).trans HX2.out
  have HD : Hid (∀ v, v.heap[M]? = w5.heap[M]? → ∀ k : Nat, k < 16 → Calls Try.prog 56 #[.map (some M), .int .i64 k] v fun e w' => e = .returned (.string (T k)) ∧ Below v.heap.size v w') := fun v hv k hk => by
    have := dataOf_any M N D U (k : Int) v (by omega) (ownsMap_sameS o1 hv) o2
    rw [HTU.out k] at this
    exact this
  have HM5 : Hid (M < w5.heap.size) := o1.lt
  have HM : Hid (w.heap.size + 1 + 1 + 1 ≤ M) := by show _ ≤ M; omega
  clear o1 o2 g5 HOW hM HX0 HX1 HX2 HB0
  go_wp2_with fail
  go_loopw [13] (fun i wr => ∃ k : Nat, k ≤ 16 ∧ i = .int .i64 k ∧ Below w.heap.size w wr ∧ wr.heap[M]? = w5.heap[M]? ∧ wr.heap[w.heap.size + 1]? = some (.cells #[.string ⟨#[]⟩, .string ⟨#[]⟩, .string ⟨#[]⟩, .string ⟨#[]⟩, .string ⟨#[]⟩, .string ⟨#[]⟩, .string ⟨#[]⟩, .string ⟨#[]⟩, .string ⟨#[]⟩, .string ⟨#[]⟩, .string ⟨#[]⟩, .string ⟨#[]⟩, .string ⟨#[]⟩, .string ⟨#[]⟩, .string ⟨#[]⟩, .string ⟨#[]⟩] 72) ∧ wr.heap[w.heap.size + 1 + 1]? = some (.cells (arrS T k) 72)) (fun i _ => 16 - (intOf i).toNat)
  case atStart => exact ⟨0, by omega, rfl, HB5.out, rfl, HK1.out, HK2.out⟩
  case round =>
    clear HB5 HK1 HK2
    obtain ⟨k, hk, rfl, hb, hm, h1, h2⟩ := hrel
    have HBR := hid hb
    have HMR := hid hm
    have H1 := hid h1
    have H2 := hid h2
    clear hb hm h1 h2
    by_cases hlt : k < 16
    · have HC := hid (HD.out wr HMR.out k hlt)
      go_wp2_with fail
      refine HC.out.mono ?_
      rintro e w6 ⟨rfl, g6⟩
      have hl1 : w.heap.size + 1 < wr.heap.size := (Array.getElem?_eq_some_iff.1 H1.out).1
      have hl2 : w.heap.size + 1 + 1 < wr.heap.size := (Array.getElem?_eq_some_iff.1 H2.out).1
      have hlm : M < wr.heap.size := by
        rcases Nat.lt_or_ge M wr.heap.size with h' | h'
        · exact h'
        · have := HMR.out
          rw [Array.getElem?_eq_none h', Array.getElem?_eq_getElem HM5.out] at this
          cases this
      have k1 := (g6.block _ hl1).trans H1.out
      have k2 := (g6.block _ hl2).trans H2.out
      have kM := (g6.block _ hlm).trans HMR.out
      have c2 : w6.cell? ⟨w.heap.size + 1 + 1, k, none⟩ = some (.string ⟨#[]⟩) := by
        rw [box_cell k2]
        rw [Array.getElem?_eq_getElem (by rw [arrS_size]; exact hlt), arrS_at, if_neg (Nat.lt_irrefl k)]
      have f2 : w6.frozen? ⟨w.heap.size + 1 + 1, k, none⟩ = false := box_free k2 k
      have hm := HM.out
      have HR : Hid (Below w.heap.size w (w6.setCell ⟨w.heap.size + 1 + 1, k, none⟩ (.string (T k))) ∧ (w6.setCell ⟨w.heap.size + 1 + 1, k, none⟩ (.string (T k))).heap[M]? = w5.heap[M]? ∧ (w6.setCell ⟨w.heap.size + 1 + 1, k, none⟩ (.string (T k))).heap[w.heap.size + 1]? = some (.cells #[.string ⟨#[]⟩, .string ⟨#[]⟩, .string ⟨#[]⟩, .string ⟨#[]⟩, .string ⟨#[]⟩, .string ⟨#[]⟩, .string ⟨#[]⟩, .string ⟨#[]⟩, .string ⟨#[]⟩, .string ⟨#[]⟩, .string ⟨#[]⟩, .string ⟨#[]⟩, .string ⟨#[]⟩, .string ⟨#[]⟩, .string ⟨#[]⟩, .string ⟨#[]⟩] 72) ∧ (w6.setCell ⟨w.heap.size + 1 + 1, k, none⟩ (.string (T k))).heap[w.heap.size + 1 + 1]? = some (.cells (arrS T (k + 1)) 72)) := by
        refine ⟨setB (HBR.out.trans (g6.mono HBR.out.size)) _ _ (by omega) _, (keepB _ _ _ _ _ (by omega)).trans kM, (keepB _ _ _ _ _ (by omega)).trans k1, ?_⟩
        have := box_set k2 k (.string (T k))
        rw [arrS_set T k] at this
        exact this
      clear k1 k2 kM g6 HC H1 H2 HBR HMR hm
      go_wp2_with fail
      generalize w6.setCell ⟨w.heap.size + 1 + 1, k, none⟩ (.string (T k)) = w7 at *
      go_roundw
      case rel => exact ⟨k + 1, by omega, by go_num, HR.out⟩
      case measure => simp [intOf]; omega
    · obtain rfl : k = 16 := by omega
      have q0 : ∀ v : World, v.heap[w.heap.size + 1]? = some (.cells #[.string ⟨#[]⟩, .string ⟨#[]⟩, .string ⟨#[]⟩, .string ⟨#[]⟩, .string ⟨#[]⟩, .string ⟨#[]⟩, .string ⟨#[]⟩, .string ⟨#[]⟩, .string ⟨#[]⟩, .string ⟨#[]⟩, .string ⟨#[]⟩, .string ⟨#[]⟩, .string ⟨#[]⟩, .string ⟨#[]⟩, .string ⟨#[]⟩, .string ⟨#[]⟩] 72 (0, 0)) → ((((((((((((((((v.setCell ⟨w.heap.size + 1, 0, none⟩ (.string (T 0))).setCell ⟨w.heap.size + 1, 1, none⟩ (.string (T 1))).setCell ⟨w.heap.size + 1, 2, none⟩ (.string (T 2))).setCell ⟨w.heap.size + 1, 3, none⟩ (.string (T 3))).setCell ⟨w.heap.size + 1, 4, none⟩ (.string (T 4))).setCell ⟨w.heap.size + 1, 5, none⟩ (.string (T 5))).setCell ⟨w.heap.size + 1, 6, none⟩ (.string (T 6))).setCell ⟨w.heap.size + 1, 7, none⟩ (.string (T 7))).setCell ⟨w.heap.size + 1, 8, none⟩ (.string (T 8))).setCell ⟨w.heap.size + 1, 9, none⟩ (.string (T 9))).setCell ⟨w.heap.size + 1, 10, none⟩ (.string (T 10))).setCell ⟨w.heap.size + 1, 11, none⟩ (.string (T 11))).setCell ⟨w.heap.size + 1, 12, none⟩ (.string (T 12))).setCell ⟨w.heap.size + 1, 13, none⟩ (.string (T 13))).setCell ⟨w.heap.size + 1, 14, none⟩ (.string (T 14))).setCell ⟨w.heap.size + 1, 15, none⟩ (.string (T 15))).heap[w.heap.size + 1]? = some (.cells #[.string (T 0), .string (T 1), .string (T 2), .string (T 3), .string (T 4), .string (T 5), .string (T 6), .string (T 7), .string (T 8), .string (T 9), .string (T 10), .string (T 11), .string (T 12), .string (T 13), .string (T 14), .string (T 15)] 72 (0, 0)) := fun v h => by
        simpa using (box_set (box_set (box_set (box_set (box_set (box_set (box_set (box_set (box_set (box_set (box_set (box_set (box_set (box_set (box_set (box_set h 0 (.string (T 0))) 1 (.string (T 1))) 2 (.string (T 2))) 3 (.string (T 3))) 4 (.string (T 4))) 5 (.string (T 5))) 6 (.string (T 6))) 7 (.string (T 7))) 8 (.string (T 8))) 9 (.string (T 9))) 10 (.string (T 10))) 11 (.string (T 11))) 12 (.string (T 12))) 13 (.string (T 13))) 14 (.string (T 14))) 15 (.string (T 15)))
      have H2' := H2.out
      rw [arrS_all] at H2'
      have c0 : wr.cell? ⟨w.heap.size + 1 + 1, 0, none⟩ = some (.string (T 0)) := box_cell H2' 0
      have c1 : wr.cell? ⟨w.heap.size + 1 + 1, 1, none⟩ = some (.string (T 1)) := box_cell H2' 1
      have c2 : wr.cell? ⟨w.heap.size + 1 + 1, 2, none⟩ = some (.string (T 2)) := box_cell H2' 2
      have c3 : wr.cell? ⟨w.heap.size + 1 + 1, 3, none⟩ = some (.string (T 3)) := box_cell H2' 3
      have c4 : wr.cell? ⟨w.heap.size + 1 + 1, 4, none⟩ = some (.string (T 4)) := box_cell H2' 4
      have c5 : wr.cell? ⟨w.heap.size + 1 + 1, 5, none⟩ = some (.string (T 5)) := box_cell H2' 5
      have c6 : wr.cell? ⟨w.heap.size + 1 + 1, 6, none⟩ = some (.string (T 6)) := box_cell H2' 6
      have c7 : wr.cell? ⟨w.heap.size + 1 + 1, 7, none⟩ = some (.string (T 7)) := box_cell H2' 7
      have c8 : wr.cell? ⟨w.heap.size + 1 + 1, 8, none⟩ = some (.string (T 8)) := box_cell H2' 8
      have c9 : wr.cell? ⟨w.heap.size + 1 + 1, 9, none⟩ = some (.string (T 9)) := box_cell H2' 9
      have c10 : wr.cell? ⟨w.heap.size + 1 + 1, 10, none⟩ = some (.string (T 10)) := box_cell H2' 10
      have c11 : wr.cell? ⟨w.heap.size + 1 + 1, 11, none⟩ = some (.string (T 11)) := box_cell H2' 11
      have c12 : wr.cell? ⟨w.heap.size + 1 + 1, 12, none⟩ = some (.string (T 12)) := box_cell H2' 12
      have c13 : wr.cell? ⟨w.heap.size + 1 + 1, 13, none⟩ = some (.string (T 13)) := box_cell H2' 13
      have c14 : wr.cell? ⟨w.heap.size + 1 + 1, 14, none⟩ = some (.string (T 14)) := box_cell H2' 14
      have c15 : wr.cell? ⟨w.heap.size + 1 + 1, 15, none⟩ = some (.string (T 15)) := box_cell H2' 15
      have d0 : wr.cell? ⟨w.heap.size + 1, 0, none⟩ = some (.string ⟨#[]⟩) := box_cell H1.out 0
      have d1 : wr.cell? ⟨w.heap.size + 1, 1, none⟩ = some (.string ⟨#[]⟩) := box_cell H1.out 1
      have d2 : wr.cell? ⟨w.heap.size + 1, 2, none⟩ = some (.string ⟨#[]⟩) := box_cell H1.out 2
      have d3 : wr.cell? ⟨w.heap.size + 1, 3, none⟩ = some (.string ⟨#[]⟩) := box_cell H1.out 3
      have d4 : wr.cell? ⟨w.heap.size + 1, 4, none⟩ = some (.string ⟨#[]⟩) := box_cell H1.out 4
      have d5 : wr.cell? ⟨w.heap.size + 1, 5, none⟩ = some (.string ⟨#[]⟩) := box_cell H1.out 5
      have d6 : wr.cell? ⟨w.heap.size + 1, 6, none⟩ = some (.string ⟨#[]⟩) := box_cell H1.out 6
      have d7 : wr.cell? ⟨w.heap.size + 1, 7, none⟩ = some (.string ⟨#[]⟩) := box_cell H1.out 7
      have d8 : wr.cell? ⟨w.heap.size + 1, 8, none⟩ = some (.string ⟨#[]⟩) := box_cell H1.out 8
      have d9 : wr.cell? ⟨w.heap.size + 1, 9, none⟩ = some (.string ⟨#[]⟩) := box_cell H1.out 9
      have d10 : wr.cell? ⟨w.heap.size + 1, 10, none⟩ = some (.string ⟨#[]⟩) := box_cell H1.out 10
      have d11 : wr.cell? ⟨w.heap.size + 1, 11, none⟩ = some (.string ⟨#[]⟩) := box_cell H1.out 11
      have d12 : wr.cell? ⟨w.heap.size + 1, 12, none⟩ = some (.string ⟨#[]⟩) := box_cell H1.out 12
      have d13 : wr.cell? ⟨w.heap.size + 1, 13, none⟩ = some (.string ⟨#[]⟩) := box_cell H1.out 13
      have d14 : wr.cell? ⟨w.heap.size + 1, 14, none⟩ = some (.string ⟨#[]⟩) := box_cell H1.out 14
      have d15 : wr.cell? ⟨w.heap.size + 1, 15, none⟩ = some (.string ⟨#[]⟩) := box_cell H1.out 15
      have f0 : wr.frozen? ⟨w.heap.size + 1, 0, none⟩ = false := box_free H1.out 0
      have f1 : wr.frozen? ⟨w.heap.size + 1, 1, none⟩ = false := box_free H1.out 1
      have f2 : wr.frozen? ⟨w.heap.size + 1, 2, none⟩ = false := box_free H1.out 2
      have f3 : wr.frozen? ⟨w.heap.size + 1, 3, none⟩ = false := box_free H1.out 3
      have f4 : wr.frozen? ⟨w.heap.size + 1, 4, none⟩ = false := box_free H1.out 4
      have f5 : wr.frozen? ⟨w.heap.size + 1, 5, none⟩ = false := box_free H1.out 5
      have f6 : wr.frozen? ⟨w.heap.size + 1, 6, none⟩ = false := box_free H1.out 6
      have f7 : wr.frozen? ⟨w.heap.size + 1, 7, none⟩ = false := box_free H1.out 7
      have f8 : wr.frozen? ⟨w.heap.size + 1, 8, none⟩ = false := box_free H1.out 8
      have f9 : wr.frozen? ⟨w.heap.size + 1, 9, none⟩ = false := box_free H1.out 9
      have f10 : wr.frozen? ⟨w.heap.size + 1, 10, none⟩ = false := box_free H1.out 10
      have f11 : wr.frozen? ⟨w.heap.size + 1, 11, none⟩ = false := box_free H1.out 11
      have f12 : wr.frozen? ⟨w.heap.size + 1, 12, none⟩ = false := box_free H1.out 12
      have f13 : wr.frozen? ⟨w.heap.size + 1, 13, none⟩ = false := box_free H1.out 13
      have f14 : wr.frozen? ⟨w.heap.size + 1, 14, none⟩ = false := box_free H1.out 14
      have f15 : wr.frozen? ⟨w.heap.size + 1, 15, none⟩ = false := box_free H1.out 15
      have hq := q0 wr H1.out
      have e0 : ((((((((((((((((wr.setCell ⟨w.heap.size + 1, 0, none⟩ (.string (T 0))).setCell ⟨w.heap.size + 1, 1, none⟩ (.string (T 1))).setCell ⟨w.heap.size + 1, 2, none⟩ (.string (T 2))).setCell ⟨w.heap.size + 1, 3, none⟩ (.string (T 3))).setCell ⟨w.heap.size + 1, 4, none⟩ (.string (T 4))).setCell ⟨w.heap.size + 1, 5, none⟩ (.string (T 5))).setCell ⟨w.heap.size + 1, 6, none⟩ (.string (T 6))).setCell ⟨w.heap.size + 1, 7, none⟩ (.string (T 7))).setCell ⟨w.heap.size + 1, 8, none⟩ (.string (T 8))).setCell ⟨w.heap.size + 1, 9, none⟩ (.string (T 9))).setCell ⟨w.heap.size + 1, 10, none⟩ (.string (T 10))).setCell ⟨w.heap.size + 1, 11, none⟩ (.string (T 11))).setCell ⟨w.heap.size + 1, 12, none⟩ (.string (T 12))).setCell ⟨w.heap.size + 1, 13, none⟩ (.string (T 13))).setCell ⟨w.heap.size + 1, 14, none⟩ (.string (T 14))).setCell ⟨w.heap.size + 1, 15, none⟩ (.string (T 15))).cell? ⟨w.heap.size + 1, 0, none⟩ = some (.string (T 0)) := box_cell hq 0
      have e1 : ((((((((((((((((wr.setCell ⟨w.heap.size + 1, 0, none⟩ (.string (T 0))).setCell ⟨w.heap.size + 1, 1, none⟩ (.string (T 1))).setCell ⟨w.heap.size + 1, 2, none⟩ (.string (T 2))).setCell ⟨w.heap.size + 1, 3, none⟩ (.string (T 3))).setCell ⟨w.heap.size + 1, 4, none⟩ (.string (T 4))).setCell ⟨w.heap.size + 1, 5, none⟩ (.string (T 5))).setCell ⟨w.heap.size + 1, 6, none⟩ (.string (T 6))).setCell ⟨w.heap.size + 1, 7, none⟩ (.string (T 7))).setCell ⟨w.heap.size + 1, 8, none⟩ (.string (T 8))).setCell ⟨w.heap.size + 1, 9, none⟩ (.string (T 9))).setCell ⟨w.heap.size + 1, 10, none⟩ (.string (T 10))).setCell ⟨w.heap.size + 1, 11, none⟩ (.string (T 11))).setCell ⟨w.heap.size + 1, 12, none⟩ (.string (T 12))).setCell ⟨w.heap.size + 1, 13, none⟩ (.string (T 13))).setCell ⟨w.heap.size + 1, 14, none⟩ (.string (T 14))).setCell ⟨w.heap.size + 1, 15, none⟩ (.string (T 15))).cell? ⟨w.heap.size + 1, 1, none⟩ = some (.string (T 1)) := box_cell hq 1
      have e2 : ((((((((((((((((wr.setCell ⟨w.heap.size + 1, 0, none⟩ (.string (T 0))).setCell ⟨w.heap.size + 1, 1, none⟩ (.string (T 1))).setCell ⟨w.heap.size + 1, 2, none⟩ (.string (T 2))).setCell ⟨w.heap.size + 1, 3, none⟩ (.string (T 3))).setCell ⟨w.heap.size + 1, 4, none⟩ (.string (T 4))).setCell ⟨w.heap.size + 1, 5, none⟩ (.string (T 5))).setCell ⟨w.heap.size + 1, 6, none⟩ (.string (T 6))).setCell ⟨w.heap.size + 1, 7, none⟩ (.string (T 7))).setCell ⟨w.heap.size + 1, 8, none⟩ (.string (T 8))).setCell ⟨w.heap.size + 1, 9, none⟩ (.string (T 9))).setCell ⟨w.heap.size + 1, 10, none⟩ (.string (T 10))).setCell ⟨w.heap.size + 1, 11, none⟩ (.string (T 11))).setCell ⟨w.heap.size + 1, 12, none⟩ (.string (T 12))).setCell ⟨w.heap.size + 1, 13, none⟩ (.string (T 13))).setCell ⟨w.heap.size + 1, 14, none⟩ (.string (T 14))).setCell ⟨w.heap.size + 1, 15, none⟩ (.string (T 15))).cell? ⟨w.heap.size + 1, 2, none⟩ = some (.string (T 2)) := box_cell hq 2
      have e3 : ((((((((((((((((wr.setCell ⟨w.heap.size + 1, 0, none⟩ (.string (T 0))).setCell ⟨w.heap.size + 1, 1, none⟩ (.string (T 1))).setCell ⟨w.heap.size + 1, 2, none⟩ (.string (T 2))).setCell ⟨w.heap.size + 1, 3, none⟩ (.string (T 3))).setCell ⟨w.heap.size + 1, 4, none⟩ (.string (T 4))).setCell ⟨w.heap.size + 1, 5, none⟩ (.string (T 5))).setCell ⟨w.heap.size + 1, 6, none⟩ (.string (T 6))).setCell ⟨w.heap.size + 1, 7, none⟩ (.string (T 7))).setCell ⟨w.heap.size + 1, 8, none⟩ (.string (T 8))).setCell ⟨w.heap.size + 1, 9, none⟩ (.string (T 9))).setCell ⟨w.heap.size + 1, 10, none⟩ (.string (T 10))).setCell ⟨w.heap.size + 1, 11, none⟩ (.string (T 11))).setCell ⟨w.heap.size + 1, 12, none⟩ (.string (T 12))).setCell ⟨w.heap.size + 1, 13, none⟩ (.string (T 13))).setCell ⟨w.heap.size + 1, 14, none⟩ (.string (T 14))).setCell ⟨w.heap.size + 1, 15, none⟩ (.string (T 15))).cell? ⟨w.heap.size + 1, 3, none⟩ = some (.string (T 3)) := box_cell hq 3
      have e4 : ((((((((((((((((wr.setCell ⟨w.heap.size + 1, 0, none⟩ (.string (T 0))).setCell ⟨w.heap.size + 1, 1, none⟩ (.string (T 1))).setCell ⟨w.heap.size + 1, 2, none⟩ (.string (T 2))).setCell ⟨w.heap.size + 1, 3, none⟩ (.string (T 3))).setCell ⟨w.heap.size + 1, 4, none⟩ (.string (T 4))).setCell ⟨w.heap.size + 1, 5, none⟩ (.string (T 5))).setCell ⟨w.heap.size + 1, 6, none⟩ (.string (T 6))).setCell ⟨w.heap.size + 1, 7, none⟩ (.string (T 7))).setCell ⟨w.heap.size + 1, 8, none⟩ (.string (T 8))).setCell ⟨w.heap.size + 1, 9, none⟩ (.string (T 9))).setCell ⟨w.heap.size + 1, 10, none⟩ (.string (T 10))).setCell ⟨w.heap.size + 1, 11, none⟩ (.string (T 11))).setCell ⟨w.heap.size + 1, 12, none⟩ (.string (T 12))).setCell ⟨w.heap.size + 1, 13, none⟩ (.string (T 13))).setCell ⟨w.heap.size + 1, 14, none⟩ (.string (T 14))).setCell ⟨w.heap.size + 1, 15, none⟩ (.string (T 15))).cell? ⟨w.heap.size + 1, 4, none⟩ = some (.string (T 4)) := box_cell hq 4
      have e5 : ((((((((((((((((wr.setCell ⟨w.heap.size + 1, 0, none⟩ (.string (T 0))).setCell ⟨w.heap.size + 1, 1, none⟩ (.string (T 1))).setCell ⟨w.heap.size + 1, 2, none⟩ (.string (T 2))).setCell ⟨w.heap.size + 1, 3, none⟩ (.string (T 3))).setCell ⟨w.heap.size + 1, 4, none⟩ (.string (T 4))).setCell ⟨w.heap.size + 1, 5, none⟩ (.string (T 5))).setCell ⟨w.heap.size + 1, 6, none⟩ (.string (T 6))).setCell ⟨w.heap.size + 1, 7, none⟩ (.string (T 7))).setCell ⟨w.heap.size + 1, 8, none⟩ (.string (T 8))).setCell ⟨w.heap.size + 1, 9, none⟩ (.string (T 9))).setCell ⟨w.heap.size + 1, 10, none⟩ (.string (T 10))).setCell ⟨w.heap.size + 1, 11, none⟩ (.string (T 11))).setCell ⟨w.heap.size + 1, 12, none⟩ (.string (T 12))).setCell ⟨w.heap.size + 1, 13, none⟩ (.string (T 13))).setCell ⟨w.heap.size + 1, 14, none⟩ (.string (T 14))).setCell ⟨w.heap.size + 1, 15, none⟩ (.string (T 15))).cell? ⟨w.heap.size + 1, 5, none⟩ = some (.string (T 5)) := box_cell hq 5
      have e6 : ((((((((((((((((wr.setCell ⟨w.heap.size + 1, 0, none⟩ (.string (T 0))).setCell ⟨w.heap.size + 1, 1, none⟩ (.string (T 1))).setCell ⟨w.heap.size + 1, 2, none⟩ (.string (T 2))).setCell ⟨w.heap.size + 1, 3, none⟩ (.string (T 3))).setCell ⟨w.heap.size + 1, 4, none⟩ (.string (T 4))).setCell ⟨w.heap.size + 1, 5, none⟩ (.string (T 5))).setCell ⟨w.heap.size + 1, 6, none⟩ (.string (T 6))).setCell ⟨w.heap.size + 1, 7, none⟩ (.string (T 7))).setCell ⟨w.heap.size + 1, 8, none⟩ (.string (T 8))).setCell ⟨w.heap.size + 1, 9, none⟩ (.string (T 9))).setCell ⟨w.heap.size + 1, 10, none⟩ (.string (T 10))).setCell ⟨w.heap.size + 1, 11, none⟩ (.string (T 11))).setCell ⟨w.heap.size + 1, 12, none⟩ (.string (T 12))).setCell ⟨w.heap.size + 1, 13, none⟩ (.string (T 13))).setCell ⟨w.heap.size + 1, 14, none⟩ (.string (T 14))).setCell ⟨w.heap.size + 1, 15, none⟩ (.string (T 15))).cell? ⟨w.heap.size + 1, 6, none⟩ = some (.string (T 6)) := box_cell hq 6
      have e7 : ((((((((((((((((wr.setCell ⟨w.heap.size + 1, 0, none⟩ (.string (T 0))).setCell ⟨w.heap.size + 1, 1, none⟩ (.string (T 1))).setCell ⟨w.heap.size + 1, 2, none⟩ (.string (T 2))).setCell ⟨w.heap.size + 1, 3, none⟩ (.string (T 3))).setCell ⟨w.heap.size + 1, 4, none⟩ (.string (T 4))).setCell ⟨w.heap.size + 1, 5, none⟩ (.string (T 5))).setCell ⟨w.heap.size + 1, 6, none⟩ (.string (T 6))).setCell ⟨w.heap.size + 1, 7, none⟩ (.string (T 7))).setCell ⟨w.heap.size + 1, 8, none⟩ (.string (T 8))).setCell ⟨w.heap.size + 1, 9, none⟩ (.string (T 9))).setCell ⟨w.heap.size + 1, 10, none⟩ (.string (T 10))).setCell ⟨w.heap.size + 1, 11, none⟩ (.string (T 11))).setCell ⟨w.heap.size + 1, 12, none⟩ (.string (T 12))).setCell ⟨w.heap.size + 1, 13, none⟩ (.string (T 13))).setCell ⟨w.heap.size + 1, 14, none⟩ (.string (T 14))).setCell ⟨w.heap.size + 1, 15, none⟩ (.string (T 15))).cell? ⟨w.heap.size + 1, 7, none⟩ = some (.string (T 7)) := box_cell hq 7
      have e8 : ((((((((((((((((wr.setCell ⟨w.heap.size + 1, 0, none⟩ (.string (T 0))).setCell ⟨w.heap.size + 1, 1, none⟩ (.string (T 1))).setCell ⟨w.heap.size + 1, 2, none⟩ (.string (T 2))).setCell ⟨w.heap.size + 1, 3, none⟩ (.string (T 3))).setCell ⟨w.heap.size + 1, 4, none⟩ (.string (T 4))).setCell ⟨w.heap.size + 1, 5, none⟩ (.string (T 5))).setCell ⟨w.heap.size + 1, 6, none⟩ (.string (T 6))).setCell ⟨w.heap.size + 1, 7, none⟩ (.string (T 7))).setCell ⟨w.heap.size + 1, 8, none⟩ (.string (T 8))).setCell ⟨w.heap.size + 1, 9, none⟩ (.string (T 9))).setCell ⟨w.heap.size + 1, 10, none⟩ (.string (T 10))).setCell ⟨w.heap.size + 1, 11, none⟩ (.string (T 11))).setCell ⟨w.heap.size + 1, 12, none⟩ (.string (T 12))).setCell ⟨w.heap.size + 1, 13, none⟩ (.string (T 13))).setCell ⟨w.heap.size + 1, 14, none⟩ (.string (T 14))).setCell ⟨w.heap.size + 1, 15, none⟩ (.string (T 15))).cell? ⟨w.heap.size + 1, 8, none⟩ = some (.string (T 8)) := box_cell hq 8
      have e9 : ((((((((((((((((wr.setCell ⟨w.heap.size + 1, 0, none⟩ (.string (T 0))).setCell ⟨w.heap.size + 1, 1, none⟩ (.string (T 1))).setCell ⟨w.heap.size + 1, 2, none⟩ (.string (T 2))).setCell ⟨w.heap.size + 1, 3, none⟩ (.string (T 3))).setCell ⟨w.heap.size + 1, 4, none⟩ (.string (T 4))).setCell ⟨w.heap.size + 1, 5, none⟩ (.string (T 5))).setCell ⟨w.heap.size + 1, 6, none⟩ (.string (T 6))).setCell ⟨w.heap.size + 1, 7, none⟩ (.string (T 7))).setCell ⟨w.heap.size + 1, 8, none⟩ (.string (T 8))).setCell ⟨w.heap.size + 1, 9, none⟩ (.string (T 9))).setCell ⟨w.heap.size + 1, 10, none⟩ (.string (T 10))).setCell ⟨w.heap.size + 1, 11, none⟩ (.string (T 11))).setCell ⟨w.heap.size + 1, 12, none⟩ (.string (T 12))).setCell ⟨w.heap.size + 1, 13, none⟩ (.string (T 13))).setCell ⟨w.heap.size + 1, 14, none⟩ (.string (T 14))).setCell ⟨w.heap.size + 1, 15, none⟩ (.string (T 15))).cell? ⟨w.heap.size + 1, 9, none⟩ = some (.string (T 9)) := box_cell hq 9
      have e10 : ((((((((((((((((wr.setCell ⟨w.heap.size + 1, 0, none⟩ (.string (T 0))).setCell ⟨w.heap.size + 1, 1, none⟩ (.string (T 1))).setCell ⟨w.heap.size + 1, 2, none⟩ (.string (T 2))).setCell ⟨w.heap.size + 1, 3, none⟩ (.string (T 3))).setCell ⟨w.heap.size + 1, 4, none⟩ (.string (T 4))).setCell ⟨w.heap.size + 1, 5, none⟩ (.string (T 5))).setCell ⟨w.heap.size + 1, 6, none⟩ (.string (T 6))).setCell ⟨w.heap.size + 1, 7, none⟩ (.string (T 7))).setCell ⟨w.heap.size + 1, 8, none⟩ (.string (T 8))).setCell ⟨w.heap.size + 1, 9, none⟩ (.string (T 9))).setCell ⟨w.heap.size + 1, 10, none⟩ (.string (T 10))).setCell ⟨w.heap.size + 1, 11, none⟩ (.string (T 11))).setCell ⟨w.heap.size + 1, 12, none⟩ (.string (T 12))).setCell ⟨w.heap.size + 1, 13, none⟩ (.string (T 13))).setCell ⟨w.heap.size + 1, 14, none⟩ (.string (T 14))).setCell ⟨w.heap.size + 1, 15, none⟩ (.string (T 15))).cell? ⟨w.heap.size + 1, 10, none⟩ = some (.string (T 10)) := box_cell hq 10
      have e11 : ((((((((((((((((wr.setCell ⟨w.heap.size + 1, 0, none⟩ (.string (T 0))).setCell ⟨w.heap.size + 1, 1, none⟩ (.string (T 1))).setCell ⟨w.heap.size + 1, 2, none⟩ (.string (T 2))).setCell ⟨w.heap.size + 1, 3, none⟩ (.string (T 3))).setCell ⟨w.heap.size + 1, 4, none⟩ (.string (T 4))).setCell ⟨w.heap.size + 1, 5, none⟩ (.string (T 5))).setCell ⟨w.heap.size + 1, 6, none⟩ (.string (T 6))).setCell ⟨w.heap.size + 1, 7, none⟩ (.string (T 7))).setCell ⟨w.heap.size + 1, 8, none⟩ (.string (T 8))).setCell ⟨w.heap.size + 1, 9, none⟩ (.string (T 9))).setCell ⟨w.heap.size + 1, 10, none⟩ (.string (T 10))).setCell ⟨w.heap.size + 1, 11, none⟩ (.string (T 11))).setCell ⟨w.heap.size + 1, 12, none⟩ (.string (T 12))).setCell ⟨w.heap.size + 1, 13, none⟩ (.string (T 13))).setCell ⟨w.heap.size + 1, 14, none⟩ (.string (T 14))).setCell ⟨w.heap.size + 1, 15, none⟩ (.string (T 15))).cell? ⟨w.heap.size + 1, 11, none⟩ = some (.string (T 11)) := box_cell hq 11
      have e12 : ((((((((((((((((wr.setCell ⟨w.heap.size + 1, 0, none⟩ (.string (T 0))).setCell ⟨w.heap.size + 1, 1, none⟩ (.string (T 1))).setCell ⟨w.heap.size + 1, 2, none⟩ (.string (T 2))).setCell ⟨w.heap.size + 1, 3, none⟩ (.string (T 3))).setCell ⟨w.heap.size + 1, 4, none⟩ (.string (T 4))).setCell ⟨w.heap.size + 1, 5, none⟩ (.string (T 5))).setCell ⟨w.heap.size + 1, 6, none⟩ (.string (T 6))).setCell ⟨w.heap.size + 1, 7, none⟩ (.string (T 7))).setCell ⟨w.heap.size + 1, 8, none⟩ (.string (T 8))).setCell ⟨w.heap.size + 1, 9, none⟩ (.string (T 9))).setCell ⟨w.heap.size + 1, 10, none⟩ (.string (T 10))).setCell ⟨w.heap.size + 1, 11, none⟩ (.string (T 11))).setCell ⟨w.heap.size + 1, 12, none⟩ (.string (T 12))).setCell ⟨w.heap.size + 1, 13, none⟩ (.string (T 13))).setCell ⟨w.heap.size + 1, 14, none⟩ (.string (T 14))).setCell ⟨w.heap.size + 1, 15, none⟩ (.string (T 15))).cell? ⟨w.heap.size + 1, 12, none⟩ = some (.string (T 12)) := box_cell hq 12
      have e13 : ((((((((((((((((wr.setCell ⟨w.heap.size + 1, 0, none⟩ (.string (T 0))).setCell ⟨w.heap.size + 1, 1, none⟩ (.string (T 1))).setCell ⟨w.heap.size + 1, 2, none⟩ (.string (T 2))).setCell ⟨w.heap.size + 1, 3, none⟩ (.string (T 3))).setCell ⟨w.heap.size + 1, 4, none⟩ (.string (T 4))).setCell ⟨w.heap.size + 1, 5, none⟩ (.string (T 5))).setCell ⟨w.heap.size + 1, 6, none⟩ (.string (T 6))).setCell ⟨w.heap.size + 1, 7, none⟩ (.string (T 7))).setCell ⟨w.heap.size + 1, 8, none⟩ (.string (T 8))).setCell ⟨w.heap.size + 1, 9, none⟩ (.string (T 9))).setCell ⟨w.heap.size + 1, 10, none⟩ (.string (T 10))).setCell ⟨w.heap.size + 1, 11, none⟩ (.string (T 11))).setCell ⟨w.heap.size + 1, 12, none⟩ (.string (T 12))).setCell ⟨w.heap.size + 1, 13, none⟩ (.string (T 13))).setCell ⟨w.heap.size + 1, 14, none⟩ (.string (T 14))).setCell ⟨w.heap.size + 1, 15, none⟩ (.string (T 15))).cell? ⟨w.heap.size + 1, 13, none⟩ = some (.string (T 13)) := box_cell hq 13
      have e14 : ((((((((((((((((wr.setCell ⟨w.heap.size + 1, 0, none⟩ (.string (T 0))).setCell ⟨w.heap.size + 1, 1, none⟩ (.string (T 1))).setCell ⟨w.heap.size + 1, 2, none⟩ (.string (T 2))).setCell ⟨w.heap.size + 1, 3, none⟩ (.string (T 3))).setCell ⟨w.heap.size + 1, 4, none⟩ (.string (T 4))).setCell ⟨w.heap.size + 1, 5, none⟩ (.string (T 5))).setCell ⟨w.heap.size + 1, 6, none⟩ (.string (T 6))).setCell ⟨w.heap.size + 1, 7, none⟩ (.string (T 7))).setCell ⟨w.heap.size + 1, 8, none⟩ (.string (T 8))).setCell ⟨w.heap.size + 1, 9, none⟩ (.string (T 9))).setCell ⟨w.heap.size + 1, 10, none⟩ (.string (T 10))).setCell ⟨w.heap.size + 1, 11, none⟩ (.string (T 11))).setCell ⟨w.heap.size + 1, 12, none⟩ (.string (T 12))).setCell ⟨w.heap.size + 1, 13, none⟩ (.string (T 13))).setCell ⟨w.heap.size + 1, 14, none⟩ (.string (T 14))).setCell ⟨w.heap.size + 1, 15, none⟩ (.string (T 15))).cell? ⟨w.heap.size + 1, 14, none⟩ = some (.string (T 14)) := box_cell hq 14
      have e15 : ((((((((((((((((wr.setCell ⟨w.heap.size + 1, 0, none⟩ (.string (T 0))).setCell ⟨w.heap.size + 1, 1, none⟩ (.string (T 1))).setCell ⟨w.heap.size + 1, 2, none⟩ (.string (T 2))).setCell ⟨w.heap.size + 1, 3, none⟩ (.string (T 3))).setCell ⟨w.heap.size + 1, 4, none⟩ (.string (T 4))).setCell ⟨w.heap.size + 1, 5, none⟩ (.string (T 5))).setCell ⟨w.heap.size + 1, 6, none⟩ (.string (T 6))).setCell ⟨w.heap.size + 1, 7, none⟩ (.string (T 7))).setCell ⟨w.heap.size + 1, 8, none⟩ (.string (T 8))).setCell ⟨w.heap.size + 1, 9, none⟩ (.string (T 9))).setCell ⟨w.heap.size + 1, 10, none⟩ (.string (T 10))).setCell ⟨w.heap.size + 1, 11, none⟩ (.string (T 11))).setCell ⟨w.heap.size + 1, 12, none⟩ (.string (T 12))).setCell ⟨w.heap.size + 1, 13, none⟩ (.string (T 13))).setCell ⟨w.heap.size + 1, 14, none⟩ (.string (T 14))).setCell ⟨w.heap.size + 1, 15, none⟩ (.string (T 15))).cell? ⟨w.heap.size + 1, 15, none⟩ = some (.string (T 15)) := box_cell hq 15
      have HBF : Hid (Below w.heap.size w ((((((((((((((((wr.setCell ⟨w.heap.size + 1, 0, none⟩ (.string (T 0))).setCell ⟨w.heap.size + 1, 1, none⟩ (.string (T 1))).setCell ⟨w.heap.size + 1, 2, none⟩ (.string (T 2))).setCell ⟨w.heap.size + 1, 3, none⟩ (.string (T 3))).setCell ⟨w.heap.size + 1, 4, none⟩ (.string (T 4))).setCell ⟨w.heap.size + 1, 5, none⟩ (.string (T 5))).setCell ⟨w.heap.size + 1, 6, none⟩ (.string (T 6))).setCell ⟨w.heap.size + 1, 7, none⟩ (.string (T 7))).setCell ⟨w.heap.size + 1, 8, none⟩ (.string (T 8))).setCell ⟨w.heap.size + 1, 9, none⟩ (.string (T 9))).setCell ⟨w.heap.size + 1, 10, none⟩ (.string (T 10))).setCell ⟨w.heap.size + 1, 11, none⟩ (.string (T 11))).setCell ⟨w.heap.size + 1, 12, none⟩ (.string (T 12))).setCell ⟨w.heap.size + 1, 13, none⟩ (.string (T 13))).setCell ⟨w.heap.size + 1, 14, none⟩ (.string (T 14))).setCell ⟨w.heap.size + 1, 15, none⟩ (.string (T 15)))) := by
        have h := HBR.out
        replace h := setB h (w.heap.size + 1) 0 (by omega) (.string (T 0))
        replace h := setB h (w.heap.size + 1) 1 (by omega) (.string (T 1))
        replace h := setB h (w.heap.size + 1) 2 (by omega) (.string (T 2))
        replace h := setB h (w.heap.size + 1) 3 (by omega) (.string (T 3))
        replace h := setB h (w.heap.size + 1) 4 (by omega) (.string (T 4))
        replace h := setB h (w.heap.size + 1) 5 (by omega) (.string (T 5))
        replace h := setB h (w.heap.size + 1) 6 (by omega) (.string (T 6))
        replace h := setB h (w.heap.size + 1) 7 (by omega) (.string (T 7))
        replace h := setB h (w.heap.size + 1) 8 (by omega) (.string (T 8))
        replace h := setB h (w.heap.size + 1) 9 (by omega) (.string (T 9))
        replace h := setB h (w.heap.size + 1) 10 (by omega) (.string (T 10))
        replace h := setB h (w.heap.size + 1) 11 (by omega) (.string (T 11))
        replace h := setB h (w.heap.size + 1) 12 (by omega) (.string (T 12))
        replace h := setB h (w.heap.size + 1) 13 (by omega) (.string (T 13))
        replace h := setB h (w.heap.size + 1) 14 (by omega) (.string (T 14))
        replace h := setB h (w.heap.size + 1) 15 (by omega) (.string (T 15))
        exact h
      clear hq q0 H2'
      go_wp2_with fail
      generalize ((((((((((((((((wr.setCell ⟨w.heap.size + 1, 0, none⟩ (.string (T 0))).setCell ⟨w.heap.size + 1, 1, none⟩ (.string (T 1))).setCell ⟨w.heap.size + 1, 2, none⟩ (.string (T 2))).setCell ⟨w.heap.size + 1, 3, none⟩ (.string (T 3))).setCell ⟨w.heap.size + 1, 4, none⟩ (.string (T 4))).setCell ⟨w.heap.size + 1, 5, none⟩ (.string (T 5))).setCell ⟨w.heap.size + 1, 6, none⟩ (.string (T 6))).setCell ⟨w.heap.size + 1, 7, none⟩ (.string (T 7))).setCell ⟨w.heap.size + 1, 8, none⟩ (.string (T 8))).setCell ⟨w.heap.size + 1, 9, none⟩ (.string (T 9))).setCell ⟨w.heap.size + 1, 10, none⟩ (.string (T 10))).setCell ⟨w.heap.size + 1, 11, none⟩ (.string (T 11))).setCell ⟨w.heap.size + 1, 12, none⟩ (.string (T 12))).setCell ⟨w.heap.size + 1, 13, none⟩ (.string (T 13))).setCell ⟨w.heap.size + 1, 14, none⟩ (.string (T 14))).setCell ⟨w.heap.size + 1, 15, none⟩ (.string (T 15))) = XX at *
      refine bodyPost_ret (v := .agg #[.string (T 0), .string (T 1), .string (T 2), .string (T 3), .string (T 4), .string (T 5), .string (T 6), .string (T 7), .string (T 8), .string (T 9), .string (T 10), .string (T 11), .string (T 12), .string (T 13), .string (T 14), .string (T 15)]) (by simp [results, Try.results50, go_sem, e0, e1, e2, e3, e4, e5, e6, e7, e8, e9, e10, e11, e12, e13, e14, e15]) rfl ?_
      rw [arrS_all]
      exact ⟨rfl, HBF.out⟩
end Go.Proofs.Ytlifhakgboekfab
